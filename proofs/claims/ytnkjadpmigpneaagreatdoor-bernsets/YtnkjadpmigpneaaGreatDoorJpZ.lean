import Derived.Test.YtnkjadpmigpneaaGreatDoorJpY
import Derived.Test.YtnkjadpmigpneaaGreatDoorJpA
import Derived.Deep.LoopGhost
import Derived.Test.YtnkjadpmigpneaaGreatDoorJpE
import Derived.Test.YtnkjadpmigpneaaGreatDoorJpM
import Derived.Test.YtnkjadpmigpneaaGreatDoorBnB
import Derived.Test.YtnkjadpmigpneaaGreatDoorTxB
import Derived.Test.YtnkjadpmigpneaaGreatDoorJpW
import Derived.Test.YtnkjadpmigpneaaGreatDoorJpU
import Derived.Test.YtnkjadpmigpneaaGreatDoorJpT
import Derived.Test.YtnkjadpmigpneaaGreatDoorBrJ
import Derived.Test.YtnkjadpmigpneaaGreatDoorJpX
section
set_option linter.unusedSimpArgs false
set_option linter.unusedVariables false
set_option maxRecDepth 100000
namespace Go.Proofs.YtnkjadpmigpneaaGreatDoor
open Go.RowKit
end Go.Proofs.YtnkjadpmigpneaaGreatDoor
end

section
set_option linter.unusedSimpArgs false
set_option linter.unusedVariables false
set_option maxRecDepth 100000
namespace Go.Proofs.YtnkjadpmigpneaaGreatDoor
open Go.RowKit
end Go.Proofs.YtnkjadpmigpneaaGreatDoor
end

section
set_option linter.unusedSimpArgs false
set_option linter.unusedVariables false
set_option maxRecDepth 100000
namespace Go.Proofs.YtnkjadpmigpneaaGreatDoor
open Go.RowKit
end Go.Proofs.YtnkjadpmigpneaaGreatDoor
end

section
set_option linter.unusedSimpArgs false
set_option linter.unusedVariables false
set_option maxRecDepth 100000
namespace Go.Proofs.YtnkjadpmigpneaaGreatDoor
open Go.RowKit
end Go.Proofs.YtnkjadpmigpneaaGreatDoor
end

section
set_option linter.unusedSimpArgs false
set_option linter.unusedVariables false
set_option maxRecDepth 100000
namespace Go.Proofs.YtnkjadpmigpneaaGreatDoor
open Go.RowKit
end Go.Proofs.YtnkjadpmigpneaaGreatDoor
end

section
set_option linter.unusedSimpArgs false
set_option linter.unusedVariables false
set_option maxRecDepth 100000
namespace Go.Proofs.YtnkjadpmigpneaaGreatDoor
open Go.RowKit
end Go.Proofs.YtnkjadpmigpneaaGreatDoor
end

section
set_option linter.unusedSimpArgs false
set_option linter.unusedVariables false
set_option maxRecDepth 100000
namespace Go.Proofs.YtnkjadpmigpneaaGreatDoor
open Go.RowKit
structure F2 (w W : World) (bf bv : Nat) (c p c' p' : Int) : Prop where
  f : Sv bf c p W
  v : Sv bv c' p' W
  ne : bf ≠ bv
  lv : w.heap.size ≤ bv
  k : Below w.heap.size w W
theorem F2.below {w W W' : World} {bf bv : Nat} {c p c' p' : Int} (h : F2 w W bf bv c p c' p') (l : Below W.heap.size W W') : F2 w W' bf bv c p c' p' :=
  ⟨h.f.below l, h.v.below l, h.ne, h.lv, h.k.trans (l.mono h.k.size)⟩
theorem F2.set {w W : World} {bf bv : Nat} {c p c' p' : Int} (h : F2 w W bf bv c p c' p') (x y : Int) : F2 w ((W.setCell ⟨bv, 0, none⟩ (.int .i64 x)).setCell ⟨bv, 1, none⟩ (.int .i64 y)) bf bv c p x y :=
  ⟨h.f.other _ _ (Ne.symm h.ne), h.v.set x y, h.ne, h.lv, (h.k.setCell h.lv _).setCell h.lv _⟩
theorem F2.new {w W : World} (k : Below w.heap.size w W) (c p c' p' : Int) : F2 w ((W.alloc (.cells #[.int .i64 c, .int .i64 p] 23)).alloc (.cells #[.int .i64 c', .int .i64 p'] 23)) W.heap.size (W.heap.size + 1) c p c' p' := by
  have h1 := (Sv.new c p W).alloc #[.int .i64 c', .int .i64 p'] 23
  have h2 := Sv.new c' p' (W.alloc (.cells #[.int .i64 c, .int .i64 p] 23))
  have z := k.size
  refine ⟨h1, ?_, by omega, by omega, (k.alloc z _).alloc (by simp; omega) _⟩
  simpa using h2
set_option maxHeartbeats 4000000 in
theorem sets_bad0 (n k : Int) (w : World) (hn : n < 0 ∨ 200 < n) (hSt : Calls Tryz.prog 33 #[.int .i64 n, .int .i64 k] w fun e w' => e = .returned (.tuple #[.string ⟨#[]⟩, .agg #[.int .i64 3, .int .i64 0]]) ∧ Below w.heap.size w w') (hBg : ∀ W, Below w.heap.size w W → Calls Tryz.prog 8 #[] W fun e w' => e = .returned (.bool true) ∧ Below W.heap.size W w') :
    Calls Tryz.prog 6 #[.int .i64 n, .int .i64 k] w fun e w' => e = .returned (.bool true) ∧ Below w.heap.size w w' := by
  have HSt : Hid (Calls Tryz.prog 33 #[.int .i64 n, .int .i64 k] w fun e w' => e = .returned (.tuple #[.string ⟨#[]⟩, .agg #[.int .i64 3, .int .i64 0]]) ∧ Below w.heap.size w w') := hSt
  have HBg : Hid (∀ W, Below w.heap.size w W → Calls Tryz.prog 8 #[] W fun e w' => e = .returned (.bool true) ∧ Below W.heap.size W w') := hBg
  clear hSt hBg
  go_enter Tryz.func6, Tryz.ntmps6
  go_wp2_with fail
  refine HSt.out.mono ?_
  rintro e w1 ⟨rfl, k1⟩
  have K1 : Hid (Below w.heap.size w w1) := k1
  have K2 : Hid (F2 w ((w1.alloc (.cells #[.int .i64 3, .int .i64 0] 23)).alloc (.cells #[.int .i64 0, .int .i64 0] 23)) w1.heap.size (w1.heap.size + 1) 3 0 0 0) := F2.new k1 3 0 0 0
  clear k1 HSt
  by_cases h0 : n < 0
  · have d0 : decide (n < 0) = true := decide_eq_true h0
    go_wp2_with fail
    refine (F_any 3 0 _).mono ?_
    rintro e w3 ⟨rfl, k3⟩
    have K3 := K2.out.below k3
    have K4 : Hid (F2 w ((w3.setCell ⟨w1.heap.size + 1, 0, none⟩ (.int .i64 3)).setCell ⟨w1.heap.size + 1, 1, none⟩ (.int .i64 0)) w1.heap.size (w1.heap.size + 1) 3 0 3 0) := K3.set 3 0
    obtain ⟨v0, v1, v2, v3, v4⟩ := K3.v
    clear K3 k3 K2
    go_wp2_with fail
    refine (HBg.out _ K4.out.k).mono ?_
    rintro e w5 ⟨rfl, k5⟩
    have K5 := K4.out.below k5
    have K6 : Hid (Below w.heap.size w w5) := K5.k
    obtain ⟨u0, u1, u2, u3, u4⟩ := K5.v
    obtain ⟨t0, t1, t2, t3, t4⟩ := K5.f
    clear K5 k5 K4 v0 v1 v2 v3 v4
    go_wp2
    go_ret
    exact ⟨rfl, K6.out⟩
  · have d0 : decide (n < 0) = false := decide_eq_false h0
    have d1 : decide (200 < n) = true := decide_eq_true (by omega)
    go_wp2_with fail
    refine (F_any 3 0 _).mono ?_
    rintro e w3 ⟨rfl, k3⟩
    have K3 := K2.out.below k3
    have K4 : Hid (F2 w ((w3.setCell ⟨w1.heap.size + 1, 0, none⟩ (.int .i64 3)).setCell ⟨w1.heap.size + 1, 1, none⟩ (.int .i64 0)) w1.heap.size (w1.heap.size + 1) 3 0 3 0) := K3.set 3 0
    obtain ⟨v0, v1, v2, v3, v4⟩ := K3.v
    clear K3 k3 K2
    go_wp2_with fail
    refine (HBg.out _ K4.out.k).mono ?_
    rintro e w5 ⟨rfl, k5⟩
    have K5 := K4.out.below k5
    have K6 : Hid (Below w.heap.size w w5) := K5.k
    obtain ⟨u0, u1, u2, u3, u4⟩ := K5.v
    obtain ⟨t0, t1, t2, t3, t4⟩ := K5.f
    clear K5 k5 K4 v0 v1 v2 v3 v4
    go_wp2
    go_ret
    exact ⟨rfl, K6.out⟩
set_option maxHeartbeats 4000000 in
theorem sets_bad1 (n k : Int) (w : World) (hn : ¬ (n < 0 ∨ 200 < n)) (hk : k < 0 ∨ 200 < k) (hSt : Calls Tryz.prog 33 #[.int .i64 n, .int .i64 k] w fun e w' => e = .returned (.tuple #[.string ⟨#[]⟩, .agg #[.int .i64 3, .int .i64 1]]) ∧ Below w.heap.size w w') (hBg : ∀ W, Below w.heap.size w W → Calls Tryz.prog 8 #[] W fun e w' => e = .returned (.bool true) ∧ Below W.heap.size W w') :
    Calls Tryz.prog 6 #[.int .i64 n, .int .i64 k] w fun e w' => e = .returned (.bool true) ∧ Below w.heap.size w w' := by
  have HSt : Hid (Calls Tryz.prog 33 #[.int .i64 n, .int .i64 k] w fun e w' => e = .returned (.tuple #[.string ⟨#[]⟩, .agg #[.int .i64 3, .int .i64 1]]) ∧ Below w.heap.size w w') := hSt
  have HBg : Hid (∀ W, Below w.heap.size w W → Calls Tryz.prog 8 #[] W fun e w' => e = .returned (.bool true) ∧ Below W.heap.size W w') := hBg
  clear hSt hBg
  go_enter Tryz.func6, Tryz.ntmps6
  go_wp2_with fail
  refine HSt.out.mono ?_
  rintro e w1 ⟨rfl, k1⟩
  have K1 : Hid (Below w.heap.size w w1) := k1
  have K2 : Hid (F2 w ((w1.alloc (.cells #[.int .i64 3, .int .i64 1] 23)).alloc (.cells #[.int .i64 0, .int .i64 0] 23)) w1.heap.size (w1.heap.size + 1) 3 1 0 0) := F2.new k1 3 1 0 0
  clear k1 HSt
  have d0 : decide (n < 0) = false := decide_eq_false (by omega)
  have d1 : decide (200 < n) = false := decide_eq_false (by omega)
  by_cases h0 : k < 0
  · have d2 : decide (k < 0) = true := decide_eq_true h0
    go_wp2_with fail
    refine (F_any 3 1 _).mono ?_
    rintro e w3 ⟨rfl, k3⟩
    have K3 := K2.out.below k3
    have K4 : Hid (F2 w ((w3.setCell ⟨w1.heap.size + 1, 0, none⟩ (.int .i64 3)).setCell ⟨w1.heap.size + 1, 1, none⟩ (.int .i64 1)) w1.heap.size (w1.heap.size + 1) 3 1 3 1) := K3.set 3 1
    obtain ⟨v0, v1, v2, v3, v4⟩ := K3.v
    clear K3 k3 K2
    go_wp2_with fail
    refine (HBg.out _ K4.out.k).mono ?_
    rintro e w5 ⟨rfl, k5⟩
    have K5 := K4.out.below k5
    have K6 : Hid (Below w.heap.size w w5) := K5.k
    obtain ⟨u0, u1, u2, u3, u4⟩ := K5.v
    obtain ⟨t0, t1, t2, t3, t4⟩ := K5.f
    clear K5 k5 K4 v0 v1 v2 v3 v4
    go_wp2
    go_ret
    exact ⟨rfl, K6.out⟩
  · have d2 : decide (k < 0) = false := decide_eq_false h0
    have d3 : decide (200 < k) = true := decide_eq_true (by omega)
    go_wp2_with fail
    refine (F_any 3 1 _).mono ?_
    rintro e w3 ⟨rfl, k3⟩
    have K3 := K2.out.below k3
    have K4 : Hid (F2 w ((w3.setCell ⟨w1.heap.size + 1, 0, none⟩ (.int .i64 3)).setCell ⟨w1.heap.size + 1, 1, none⟩ (.int .i64 1)) w1.heap.size (w1.heap.size + 1) 3 1 3 1) := K3.set 3 1
    obtain ⟨v0, v1, v2, v3, v4⟩ := K3.v
    clear K3 k3 K2
    go_wp2_with fail
    refine (HBg.out _ K4.out.k).mono ?_
    rintro e w5 ⟨rfl, k5⟩
    have K5 := K4.out.below k5
    have K6 : Hid (Below w.heap.size w w5) := K5.k
    obtain ⟨u0, u1, u2, u3, u4⟩ := K5.v
    obtain ⟨t0, t1, t2, t3, t4⟩ := K5.f
    clear K5 k5 K4 v0 v1 v2 v3 v4
    go_wp2
    go_ret
    exact ⟨rfl, K6.out⟩
theorem st_pw {n k : Nat} (hn : n ≤ 200) (hk : k ≤ 200) : BN.st n k < pw 64 := by
  have h := BN.sm_pw hn hk (Nat.le_refl (k + 1))
  have e : BN.sm (BN.tm n k) (k + 1) = ((BN.fac k * BN.st n k : Nat) : Int) := BN.al_is n k
  rw [e, Int.natAbs_natCast] at h
  exact Nat.lt_of_le_of_lt (Nat.le_mul_of_pos_left _ (BN.fac_pos k)) h
set_option maxHeartbeats 4000000 in
theorem sets_ok (n k : Nat) (w : World) (hn : n ≤ 200) (hk : k ≤ 200) (hSt : Calls Tryz.prog 33 #[.int .i64 (n : Int), .int .i64 (k : Int)] w fun e w' => e = .returned (.tuple #[.string ⟨(Lib.decDigits (BN.st n k)).toArray⟩, .agg #[.int .i64 0, .int .i64 0]]) ∧ Below w.heap.size w w') (hBg : ∀ W, Below w.heap.size w W → Calls Tryz.prog 8 #[] W fun e w' => e = .returned (.bool true) ∧ Below W.heap.size W w') :
    Calls Tryz.prog 6 #[.int .i64 (n : Int), .int .i64 (k : Int)] w fun e w' => e = .returned (.bool true) ∧ Below w.heap.size w w' := by
  obtain ⟨S, hS⟩ : ∃ S : ByteArray, S = ⟨(Lib.decDigits (BN.st n k)).toArray⟩ := ⟨_, rfl⟩
  rw [← hS] at hSt
  have HSt : Hid (Calls Tryz.prog 33 #[.int .i64 (n : Int), .int .i64 (k : Int)] w fun e w' => e = .returned (.tuple #[.string S, .agg #[.int .i64 0, .int .i64 0]]) ∧ Below w.heap.size w w') := hSt
  have HBg : Hid (∀ W, Below w.heap.size w W → Calls Tryz.prog 8 #[] W fun e w' => e = .returned (.bool true) ∧ Below W.heap.size W w') := hBg
  have HSS : Hid (S = ⟨(Lib.decDigits (BN.st n k)).toArray⟩) := hS
  clear hSt hBg hS
  have d0 : decide ((n : Int) < 0) = false := decide_eq_false (by omega)
  have d1 : decide (200 < (n : Int)) = false := decide_eq_false (by omega)
  have d2 : decide ((k : Int) < 0) = false := decide_eq_false (by omega)
  have d3 : decide (200 < (k : Int)) = false := decide_eq_false (by omega)
  go_enter Tryz.func6, Tryz.ntmps6
  go_wp2_with fail
  refine HSt.out.mono ?_
  rintro e w1 ⟨rfl, k1⟩
  have K2 : Hid (F2 w ((w1.alloc (.cells #[.int .i64 0, .int .i64 0] 23)).alloc (.cells #[.int .i64 0, .int .i64 0] 23)) w1.heap.size (w1.heap.size + 1) 0 0 0 0) := F2.new k1 0 0 0 0
  clear k1 HSt
  go_wp2_with fail
  refine (HBg.out _ K2.out.k).mono ?_
  rintro e w5 ⟨rfl, k5⟩
  have K5 := K2.out.below k5
  have K6 : Hid (Below w.heap.size w w5) := K5.k
  obtain ⟨u0, u1, u2, u3, u4⟩ := K5.v
  obtain ⟨t0, t1, t2, t3, t4⟩ := K5.f
  clear K5 k5 K2 HBg
  go_wp2_with fail
  refine (SetsOf_any n k w5 hn hk).mono ?_
  rintro e w6 ⟨b, rfl, m6⟩
  have K7 : Hid (BigAt w6 b ((BN.st n k : Nat) : Int) ∧ Below w.heap.size w w6) := ⟨m6.2.1, K6.out.trans (m6.2.2.mono K6.out.size)⟩
  clear m6 K6 u0 u1 u2 u3 u4 t0 t1 t2 t3 t4
  go_wp2_with fail
  have hI := IString_any b ((BN.st n k : Nat) : Int) 64 w6 K7.out.1 (by rw [Int.natAbs_natCast]; exact st_pw hn hk) (by omega) (by omega)
  rw [decZ_nat, ← HSS.out] at hI
  refine hI.mono ?_
  rintro e w7 ⟨rfl, k7⟩
  have K8 : Hid (Below w.heap.size w w7) := K7.out.2.trans (k7.mono K7.out.2.size)
  clear k7 K7 hI
  go_wp2
  go_ret
  exact ⟨rfl, K8.out⟩
end Go.Proofs.YtnkjadpmigpneaaGreatDoor
end

section
set_option linter.unusedSimpArgs false
set_option linter.unusedVariables false
set_option maxRecDepth 100000
namespace Go.Proofs.YtnkjadpmigpneaaGreatDoor
open Go.RowKit LgM
def dgi (l : List UInt8) (i : Nat) : Nat := (l.getD i 0).toNat
end Go.Proofs.YtnkjadpmigpneaaGreatDoor
end

section
set_option linter.unusedSimpArgs false
set_option linter.unusedVariables false
set_option maxRecDepth 100000
namespace Go.Proofs.YtnkjadpmigpneaaGreatDoor
open Go.RowKit LgM
end Go.Proofs.YtnkjadpmigpneaaGreatDoor
end

section
set_option linter.unusedSimpArgs false
set_option linter.unusedVariables false
set_option maxRecDepth 100000
namespace Go.Proofs.YtnkjadpmigpneaaGreatDoor
open Go.RowKit LgM
end Go.Proofs.YtnkjadpmigpneaaGreatDoor
end

section
set_option linter.unusedSimpArgs false
set_option linter.unusedVariables false
set_option maxRecDepth 100000
namespace Go.Proofs.YtnkjadpmigpneaaGreatDoor
open Go.RowKit
structure N2 (w W : World) (b6 b8 : Nat) : Prop where
  f : Sv b6 0 0 W
  v : Sv b8 0 0 W
  ne : b6 ≠ b8
  l6 : w.heap.size ≤ b6
  l8 : w.heap.size ≤ b8
  k : Below w.heap.size w W
def SumOk (w : World) : Prop := ∀ (k n : Nat) (W : World), Below w.heap.size w W → k ≤ 60 → n ≤ 1000000000000000000 → Calls Tryz.prog 20 #[.int .i64 (k : Int), .int .i64 (n : Int)] W fun e w' => e = .returned (.tuple #[.string ⟨(Lib.decDigits (BN.pk k n)).toArray⟩, .agg #[.int .i64 0, .int .i64 0]]) ∧ Below W.heap.size W w'
def Dn (S : ByteArray) (x : Nat) : Prop := ∀ W : World, Calls Tryz.prog 27 #[.string S] W fun e w' => ∃ b, e = .returned (.tuple #[.pointer (some ⟨b, 0, none⟩), .bool true]) ∧ W.heap.size ≤ b ∧ BigAt w' b (x : Int) ∧ Below W.heap.size W w'
end Go.Proofs.YtnkjadpmigpneaaGreatDoor
end

section
set_option linter.unusedSimpArgs false
set_option linter.unusedVariables false
set_option maxRecDepth 100000
namespace Go.Proofs.YtnkjadpmigpneaaGreatDoor
open Go.RowKit LgM
theorem begun (w : World) (hQ : Tq w) (hT : Tb w) :
    Calls Tryz.prog 8 #[] w fun e w' => e = .returned (.bool true) ∧ Below w.heap.size w w' :=
  bernBegun_of w (Number_ok 12 w (by omega) hT hQ)
theorem bern_sets (n k : Int) (w : World) (hQ : Tq w) (hT : Tb w) :
    Calls Tryz.prog 6 #[.int .i64 n, .int .i64 k] w fun e w' => e = .returned (.bool true) ∧ Below w.heap.size w w' := by
  have hB : ∀ W, Below w.heap.size w W → Calls Tryz.prog 8 #[] W fun e w' => e = .returned (.bool true) ∧ Below W.heap.size W w' := fun W kk => begun W (hQ.below kk) (hT.below kk)
  by_cases h1 : n < 0 ∨ 200 < n
  · exact sets_bad0 n k w h1 (Sets_bad0 n k w h1) hB
  · by_cases h2 : k < 0 ∨ 200 < k
    · exact sets_bad1 n k w h1 h2 (Sets_bad1 n k w (by omega) h2) hB
    · obtain ⟨n', rfl⟩ : ∃ n' : Nat, n = n' := ⟨n.toNat, by omega⟩
      obtain ⟨k', rfl⟩ : ∃ k' : Nat, k = k' := ⟨k.toNat, by omega⟩
      exact sets_ok n' k' w (by omega) (by omega) (Sets_ok n' k' w (by omega) (by omega) hQ) hB
end Go.Proofs.YtnkjadpmigpneaaGreatDoor
end
