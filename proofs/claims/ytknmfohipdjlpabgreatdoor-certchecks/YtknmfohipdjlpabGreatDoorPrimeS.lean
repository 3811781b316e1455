/- The reference's IsPrime: of a prime it says so. -/
import Derived.Test.YtknmfohipdjlpabGreatDoorPrimeR
set_option linter.unusedSimpArgs false
set_option linter.unusedVariables false
set_option maxRecDepth 100000
namespace Go.Proofs.YtknmfohipdjlpabGreatDoor
open Go.RowKit

set_option maxHeartbeats 1000000 in
theorem refIsPrime_yes (N : Nat) (w : World) (h2 : 2 ≤ N) (hM : (N : Int) ≤ 1000000000000000000) (hp : Fp N) :
    Calls Tryz.prog 9 #[.int .i64 N] w fun e w' => e = .returned (.bool true) ∧ Below w.heap.size w w' := by
  have HP : Hid (Fp N) := hp
  clear hp
  by_cases hg : (100000000 : Int) < N
  · go_enter Tryz.func9, Tryz.ntmps9
    go_wp2_with fail
    refine (B_any N w (by omega) (by omega)).mono ?_
    rintro e w1 ⟨b1, rfl, p1, i1, k1⟩
    have I1 : Hid (BigAt w1 b1 (N : Int)) := i1
    have K1 : Hid (Below w.heap.size w w1) := k1
    have z1 := k1.size
    clear i1 k1 p1
    go_wp2_with fail
    refine (Probably_prime b1 N w1 I1.out HP.out (by omega) hM).mono ?_
    rintro e w2 ⟨rfl, k2⟩
    have K2 : Hid (Below w.heap.size w w2) := K1.out.trans (k2.mono z1)
    clear k2
    go_wp2
    go_ret
    exact ⟨rfl, K2.out⟩
  · have hgb : decide ((100000000 : Int) < N) = false := decide_eq_false hg
    have hN8 : (N : Int) ≤ 100000000 := by omega
    have HN8 : Hid ((N : Int) ≤ 100000000) := hN8
    have hsq : ∀ d : Nat, 10001 ≤ d → (N : Int) < (d : Int) * d := by
      intro d hd
      have h1 : 10001 * 10001 ≤ d * d := Nat.mul_le_mul hd hd
      have h2 : ((d * d : Nat) : Int) = (d : Int) * d := by simp
      omega
    have HSQ : Hid (∀ d : Nat, 10001 ≤ d → (N : Int) < (d : Int) * d) := hsq
    clear hg hM hsq
    go_enter Tryz.func9, Tryz.ntmps9
    go_wp2
    go_loop [3] (fun dv => ∃ d : Nat, dv = .int .i64 d ∧ 2 ≤ d ∧ d ≤ 10001) (fun dv => 10002 - (intOf dv).toNat)
    case atStart => exact ⟨2, rfl, by omega, by omega⟩
    case round =>
      obtain ⟨d, rfl, hd1, hd2⟩ := hrel
      have hdd : (d : Int) * d ≤ 100020001 := by
        have h1 : d * d ≤ 10001 * 10001 := Nat.mul_le_mul hd2 hd2
        have h2 : ((d * d : Nat) : Int) = (d : Int) * d := by simp
        omega
      have hd0 : ((d : Int) == 0) = false := beq_eq_false_iff_ne.2 (by omega)
      have hdd0 : 0 ≤ (d : Int) * d := by
        have h2 : ((d * d : Nat) : Int) = (d : Int) * d := by simp
        omega
      by_cases hle : (d : Int) * d ≤ N
      · have hdl : d < 10001 := by
          rcases Nat.lt_or_ge d 10001 with h | h
          · exact h
          · have := HSQ.out d h; omega
        have hdN : d < N := by
          have h1 : 2 * d ≤ d * d := Nat.mul_le_mul_right d hd1
          have h2 : ((d * d : Nat) : Int) = (d : Int) * d := by simp
          omega
        have hmod : N % d ≠ 0 := pr_mod HP.out.1 hd1 hdN
        have hmb : (((N : Int) % (d : Int)) == 0) = false := by
          rw [show ((N : Int) % (d : Int)) = ((N % d : Nat) : Int) from by simp]; exact beq_eq_false_iff_ne.2 (by omega)
        clear hmod
        go_wp2
        go_round
        case rel => exact ⟨d + 1, by go_num, by omega, by omega⟩
        case measure => simp [intOf]; omega
      · go_wp2
        go_ret
        exact ⟨rfl, Below.refl _ _⟩

end Go.Proofs.YtknmfohipdjlpabGreatDoor
