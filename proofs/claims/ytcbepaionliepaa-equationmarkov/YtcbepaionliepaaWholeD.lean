/- Contracts of the document's answer for layer 1: F, NumbersFault, Gcd, Size, Left. -/
import Derived.Test.YtcbepaionliepaaWholeC
set_option linter.unusedSimpArgs false
set_option linter.unusedVariables false
set_option maxRecDepth 100000
namespace Go.Proofs.Ytcbepaionliepaa
open Go.RowKit

theorem F_any (c a : Int) (w : World) :
    Calls Try.prog 7 #[.int .i64 c, .int .i64 a] w fun e w' => e = .returned (.agg #[.int .i64 c, .int .i64 a]) ∧ Below w.heap.size w w' := by
  go_enter Try.func7, Try.ntmps7
  go_wp2
  refine bodyPost_ret (v := .agg #[.int .i64 c, .int .i64 a]) (by simp [results, Try.results7, go_sem]) rfl ⟨rfl, ?_⟩
  exact Below.alloc (Below.refl _ _) (Nat.le_refl _) _

theorem refSize_any (n : Int) (w : World) (h1 : -9223372036854775807 ≤ n) (h2 : n ≤ 9223372036854775807) :
    Calls Try.prog 10 #[.int .i64 n] w fun e w' => e = .returned (.int .i64 (n.natAbs : Int)) ∧ w' = w := by
  by_cases h : n < 0
  all_goals
    go_enter Try.func10, Try.ntmps10
    go_wp2
    go_ret
    exact ⟨ret_int (by omega), rfl⟩

theorem gcd_sub_left (p q : Nat) : Nat.gcd (p % q) q = Nat.gcd p q := by
  rw [Nat.gcd_comm p q, Nat.gcd_rec q p]
theorem gcd_sub_right (p q : Nat) : Nat.gcd p (q % p) = Nat.gcd p q := by
  rw [Nat.gcd_rec p q, Nat.gcd_comm]

set_option maxHeartbeats 1000000 in
theorem refGcd_nat (a b : Nat) (w : World) (ha : a ≤ 1000000000000000000) (hb : b ≤ 1000000000000000000) (x y : Int) (hx : x.natAbs = a) (hy : y.natAbs = b) :
    Calls Try.prog 8 #[.int .i64 x, .int .i64 y] w fun e w' => e = .returned (.int .i64 (Int.gcd x y : Int)) ∧ w' = w := by
  have HG : Hid (Int.gcd x y = Nat.gcd a b) := by unfold Int.gcd; rw [hx, hy]; rfl
  rw [HG.out]
  have hx' : (x < 0 → -x = (a : Int)) ∧ (0 ≤ x → x = (a : Int)) := by omega
  have hy' : (y < 0 → -y = (b : Int)) ∧ (0 ≤ y → y = (b : Int)) := by omega
  have HX : Hid ((x < 0 → -x = (a : Int)) ∧ (0 ≤ x → x = (a : Int))) := hx'
  have HY : Hid ((y < 0 → -y = (b : Int)) ∧ (0 ≤ y → y = (b : Int))) := hy'
  have bx : -1000000000000000000 ≤ x ∧ x ≤ 1000000000000000000 := by omega
  have by' : -1000000000000000000 ≤ y ∧ y ≤ 1000000000000000000 := by omega
  clear hx hy hx' hy' HG
  by_cases sx : x < 0 <;> by_cases sy : y < 0
  all_goals
    go_enter Try.func8, Try.ntmps8
    go_wp2
    go_loop [0, 1] (fun s t => ∃ p q : Nat, s = .int .i64 p ∧ t = .int .i64 q ∧ p ≤ 1000000000000000000 ∧ q ≤ 1000000000000000000 ∧ Nat.gcd p q = Nat.gcd a b) (fun s t => (intOf s).toNat + (intOf t).toNat)
    case atStart =>
      refine ⟨a, b, ?_, ?_, ha, hb, rfl⟩
      · first | rw [HX.out.1 sx] | rw [HX.out.2 (by omega)]
      · first | rw [HY.out.1 sy] | rw [HY.out.2 (by omega)]
    case round =>
      obtain ⟨p, q, rfl, rfl, hp, hq, hg⟩ := hrel
      have H1 : Hid (Nat.gcd p q = Nat.gcd a b) := hg
      clear hg HX HY
      by_cases c1 : 0 < p
      · by_cases c2 : 0 < q
        · by_cases c3 : q < p
          · have hm : p % q < q := Nat.mod_lt _ c2
            have e := gcd_sub_left p q
            have E : Hid (Nat.gcd (p % q) q = Nat.gcd p q) := e
            clear e
            go_wp2
            go_round
            case rel => exact ⟨p % q, q, by go_num, rfl, by omega, hq, E.out.trans H1.out⟩
            case measure => simp [intOf]; omega
          · have hm : q % p < p := Nat.mod_lt _ c1
            have e := gcd_sub_right p q
            have E : Hid (Nat.gcd p (q % p) = Nat.gcd p q) := e
            clear e
            go_wp2
            go_round
            case rel => exact ⟨p, q % p, rfl, by go_num, hp, by omega, E.out.trans H1.out⟩
            case measure => simp [intOf]; omega
        · obtain rfl : q = 0 := by omega
          go_wp2
          go_ret
          exact ⟨ret_int (by rw [← H1.out]; simp), rfl⟩
      · obtain rfl : p = 0 := by omega
        go_wp2
        go_ret
        exact ⟨ret_int (by rw [← H1.out]; simp), rfl⟩

end Go.Proofs.Ytcbepaionliepaa
