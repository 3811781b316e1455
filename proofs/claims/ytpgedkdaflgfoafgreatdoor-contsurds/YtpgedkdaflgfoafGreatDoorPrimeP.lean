/- slices.Sort of up to twelve numbers that are in order. -/
import Derived.Test.YtpgedkdaflgfoafGreatDoorPrimeO
import Derived.Test.YtpgedkdaflgfoafGreatDoorJoinC
set_option linter.unusedSimpArgs false
set_option linter.unusedVariables false
set_option maxRecDepth 100000
namespace Go.Proofs.YtpgedkdaflgfoafGreatDoor
open Go.RowKit

theorem Less_of (x y : Int) (w : World) :
    Calls Tryz.prog 155 #[.int .i64 x, .int .i64 y] w fun e w' => e = .returned (.bool (decide (x < y))) ∧ ∃ q, w' = w.drewN q := by
  have h1 : (x != x) = false := by simp
  go_enter Tryz.func155, Tryz.ntmps155
  go_wp2
  go_ret
  exact ⟨rfl, 0, rfl⟩

theorem Len_of (x : Int) (w : World) (h0 : 0 ≤ x) (h1 : x ≤ 100) :
    Calls Tryz.prog 141 #[.int .u64 x] w fun e w' => e = .returned (.int .i64 (Lib.bitLen x.toNat)) ∧ w' = w := by
  go_enter Tryz.func141, Tryz.ntmps141
  go_wp2_with fail
  refine (Len64_int x w h0 (by omega)).mono ?_
  rintro e w' ⟨rfl, rfl⟩
  go_wp2
  go_ret
  exact ⟨rfl, rfl⟩

/-- The numbers l lie in a slice of k, in order. -/
structure Ord (a : Option Addr) (k : Nat) (l : List Int) (w : World) : Prop where
  cell : ∀ g j, a = some ⟨g, 0, none⟩ → j < k → g < w.heap.size ∧ w.cell? ⟨g, j, none⟩ = some (.int .i64 (l.getD j 0))
  some : 0 < k → ∃ g, a = some ⟨g, 0, none⟩
  ord : ∀ j, j + 1 < k → l.getD j 0 ≤ l.getD (j + 1) 0
theorem Ord.below {a : Option Addr} {k : Nat} {l : List Int} {w w' : World} (h : Ord a k l w) (b : Below w.heap.size w w') : Ord a k l w' :=
  ⟨fun g j e hj => ⟨Nat.lt_of_lt_of_le (h.cell g j e hj).1 b.size, (b.cell (p := ⟨g, j, none⟩) (h.cell g j e hj).1).trans (h.cell g j e hj).2⟩, h.some, h.ord⟩

set_option maxHeartbeats 1000000 in
theorem insertion_ord (a : Option Addr) (k c : Nat) (l : List Int) (w : World) (hk : k ≤ 12) (hc : k ≤ c) (ho : Ord a k l w) :
    Calls Tryz.prog 149 #[.slice a k c, .int .i64 0, .int .i64 k] w fun e w' => (∃ v, e = .returned v) ∧ Below w.heap.size w w' := by
  have HO : Hid (Ord a k l w) := ho
  clear ho
  go_enter Tryz.func149, Tryz.ntmps149
  go_wp2
  go_loopw [6] (fun iv wx => ∃ i : Nat, iv = .int .i64 i ∧ 1 ≤ i ∧ (i ≤ k ∨ i = 1) ∧ Hid (Below w.heap.size w wx)) (fun iv _ => k - (intOf iv).toNat)
  case atStart => exact ⟨1, rfl, by omega, by omega, Below.refl _ _⟩
  case round =>
    obtain ⟨i, rfl, hi1, hi2, HB⟩ := hrel
    by_cases hlt : i < k
    · obtain ⟨wo, hwo⟩ : ∃ wo, wo = wr := ⟨_, rfl⟩
      subst hwo
      obtain ⟨g, rfl⟩ := HO.out.some (by omega)
      have O2 := HO.out.below HB.out
      have d0 := (O2.cell g (i - 1) rfl (by omega)).2
      have d1 := (O2.cell g i rfl (by omega)).2
      have hor := O2.ord (i - 1) (by omega)
      rw [show i - 1 + 1 = i by omega] at hor
      obtain ⟨x, hx⟩ : ∃ x, x = l.getD (i - 1) 0 := ⟨_, rfl⟩
      obtain ⟨y, hy⟩ : ∃ y, y = l.getD i 0 := ⟨_, rfl⟩
      rw [← hx] at d0 hor
      rw [← hy] at d1 hor
      have hlt2 : decide (y < x) = false := decide_eq_false (by omega)
      have hj0 : decide (0 < i) = true := decide_eq_true (by omega)
      clear hx hy hor O2
      go_wp2
      go_loopw [7] (fun jv wx => jv = .int .i64 i ∧ Hid (wx = wo)) (fun _ _ => 0)
      case atStart => exact ⟨rfl, rfl⟩
      case round =>
        obtain ⟨rfl, HW⟩ := hrel
        have hw := HW.out
        subst hw
        clear HW
        go_wp2
        go_quiet ((go_at_call 155; exact Calls.quiet_of (Less_of y x _)))
        go_wp2
        go_roundw
        case rel => exact ⟨i + 1, by go_num, by omega, by omega, below_drewN' HB.out⟩
        case measure => simp [intOf]; omega
    · go_wp2
      go_end0
      exact ⟨⟨_, rfl⟩, HB.out⟩

set_option maxHeartbeats 1000000 in
theorem pdq_ord (a : Option Addr) (k c : Nat) (l : List Int) (lim : Int) (w : World) (hk : k ≤ 12) (hc : k ≤ c) (ho : Ord a k l w) :
    Calls Tryz.prog 140 #[.slice a k c, .int .i64 0, .int .i64 k, .int .i64 lim] w fun e w' => (∃ v, e = .returned v) ∧ Below w.heap.size w w' := by
  have HO : Hid (Ord a k l w) := ho
  clear ho
  go_enter Tryz.func140, Tryz.ntmps140
  go_wp2
  go_loopw [1, 2, 3, 8, 9] (fun av bv lv x1 x2 wx => av = .int .i64 0 ∧ bv = .int .i64 k ∧ lv = .int .i64 lim ∧ x1 = .bool true ∧ x2 = .bool true ∧ Hid (wx = w)) (fun _ _ _ _ _ _ => 0)
  case atStart => exact ⟨rfl, rfl, rfl, rfl, rfl, rfl⟩
  case round =>
    obtain ⟨rfl, rfl, rfl, rfl, rfl, HW⟩ := hrel
    have hw := HW.out
    subst hw
    clear HW
    go_wp2_with fail
    refine (insertion_ord a k c l wr hk hc HO.out).mono ?_
    rintro e w1 ⟨⟨v, rfl⟩, k1⟩
    have K1 : Hid (Below wr.heap.size wr w1) := k1
    clear k1
    go_wp2
    exact bodyPost_ret (results_none rfl _ _ _) rfl ⟨⟨_, rfl⟩, K1.out⟩

theorem Sort_ord (a : Option Addr) (k c : Nat) (l : List Int) (w : World) (hk : k ≤ 12) (hc : k ≤ c) (ho : Ord a k l w) :
    Calls Tryz.prog 131 #[.slice a k c] w fun e w' => (∃ v, e = .returned v) ∧ Below w.heap.size w w' := by
  have HO : Hid (Ord a k l w) := ho
  clear ho
  go_enter Tryz.func131, Tryz.ntmps131
  go_wp2_with fail
  refine (Len_of k w (by omega) (by omega)).mono ?_
  rintro e w1 ⟨rfl, rfl⟩
  obtain ⟨lim, hlim⟩ : ∃ lim : Int, lim = (Lib.bitLen (Int.toNat k) : Int) := ⟨_, rfl⟩
  rw [← hlim]
  clear hlim
  go_wp2_with fail
  refine (pdq_ord a k c l lim w1 hk hc HO.out).mono ?_
  rintro e w2 ⟨⟨v, rfl⟩, k2⟩
  have K2 : Hid (Below w1.heap.size w1 w2) := k2
  clear k2
  go_wp2
  go_end0
  exact ⟨⟨_, rfl⟩, K2.out⟩

end Go.Proofs.YtpgedkdaflgfoafGreatDoor
