/- The law EquationMarkov: a bound that is none; small bounds. -/
import Derived.Test.YtcbepaionliepaaMkH
import Derived.Test.YtcbepaionliepaaMkJ
import Derived.Test.YtcbepaionliepaaWholeD
set_option linter.unusedSimpArgs false
set_option linter.unusedVariables false
set_option maxRecDepth 100000
namespace Go.Proofs.Ytcbepaionliepaa
open Go.RowKit

set_option maxHeartbeats 4000000 in
theorem mk_bad (m : Int) (w : World) (h : m < 0 ∨ 1000000000000000000 < m) :
    Calls Try.prog 4 #[.int .i64 m] w fun e w' => e = .returned (.bool true) ∧ Below w.heap.size w w' := by
  have HM : Hid (∀ w, Calls Try.prog 14 #[.int .i64 m] w fun e w' => e = .returned (.tuple #[.slice none 0 0, .agg #[.int .i64 3, .int .i64 0]]) ∧ Below w.heap.size w w') := fun w => Markov_bad m w h
  have HNm : Hid (∀ w, ¬ m < 0 → Calls Try.prog 15 #[.int .i64 m] w fun e w' => e = .returned (.bool false) ∧ w' = w) := fun w h0 => by
    refine (number_any m w).mono ?_
    rintro e w' ⟨rfl, hw⟩
    refine ⟨?_, hw⟩
    have : numB m = false := by unfold numB; simp; omega
    rw [this]
  clear h
  go_enter Try.func4, Try.ntmps4
  go_wp2_with fail
  refine (HM.out _).mono ?_
  rintro e w1 ⟨rfl, k1⟩
  go_wp2_with fail
  obtain ⟨W1, hW1⟩ : ∃ W, W = w1.alloc (.cells #[.int .i64 3, .int .i64 0] 23) := ⟨_, rfl⟩
  have H1 : Hid (Cl w1.heap.size [.int .i64 3, .int .i64 0] 23 W1 ∧ Below w.heap.size w W1) := by
    show _ ∧ _
    rw [hW1]
    exact ⟨Cl.new [.int .i64 3, .int .i64 0] _ w1, Below.alloc k1 k1.size _⟩
  rw [← hW1]
  clear hW1 k1
  refine (equationBegun_any _).mono ?_
  rintro e w2 ⟨rfl, k2⟩
  have H2 : Hid (Cl w1.heap.size [.int .i64 3, .int .i64 0] 23 w2 ∧ Below w.heap.size w w2) := ⟨H1.out.1.below k2, H1.out.2.trans (k2.mono H1.out.2.size)⟩
  clear H1 k2
  have HR : Hid (∀ W', Below w2.heap.size w2 W' → W'.cell? ⟨w1.heap.size, 0, none⟩ = some (.int .i64 3) ∧ W'.cell? ⟨w1.heap.size, 1, none⟩ = some (.int .i64 0)) := fun W' k => ⟨(H2.out.1.below k).cell 0, (H2.out.1.below k).cell 1⟩
  by_cases hm : m < 0
  · have t1 : decide (m < 0) = true := decide_eq_true hm
    go_wp2_with fail
    refine wp_region_G (fun w' => w'.cell? ⟨w1.heap.size, 0, none⟩ = some (.int .i64 3) ∧ w'.cell? ⟨w1.heap.size, 1, none⟩ = some (.int .i64 0)) 8 (by kernel_rfl) (HR.out _ (Below.refl _ _).drew) (fun hHeld => ?_)
    refine wpAnyG_take (i := 0) (v := ?v0x1) rfl (by kernel_rfl) (fun _ _ _ h => h) (Or.inl ⟨by rfl, ?y0x1⟩) hHeld ?r0x1
    case y0x1 => (intro wS hSw; obtain ⟨s1, s2⟩ := hSw; go_simp; try with_reducible rfl)
    try simp only [Act.put, List.setIfInBounds_toArray, List.set_cons_zero, List.set_cons_succ]
    refine wpAnyG_one (i := 1) rfl (by kernel_rfl) (fun K hK => ?_)
    go_simp
    refine (F_any 3 0 _).mono ?_
    rintro e V7 ⟨rfl, kV⟩
    have kV' : Below w2.heap.size w2 V7 := (Below.refl _ _).drew.trans (kV.mono (by simp))
    have HK7 : Hid (Below w.heap.size w V7) := H2.out.2.trans (kV'.mono H2.out.2.size)
    clear hHeld
    have hHeld : V7.cell? ⟨w1.heap.size, 0, none⟩ = some (.int .i64 3) ∧ V7.cell? ⟨w1.heap.size, 1, none⟩ = some (.int .i64 0) := HR.out _ kV'
    clear kV kV'
    refine hK.out _ _ hHeld ?_
    clear hK K
    try simp only [Act.put, List.setIfInBounds_toArray, List.set_cons_zero, List.set_cons_succ]
    refine wpAnyG_take (i := 2) (v := .bool true) rfl (by kernel_rfl) (fun _ _ _ h => h) (Or.inl ⟨by kernel_rfl, ?y2x2⟩) hHeld ?r2x2
    case y2x2 => (intro wS hSw; (go_simp))
    try simp only [Act.put, List.setIfInBounds_toArray, List.set_cons_zero, List.set_cons_succ]
    refine wpAnyG_take (i := 3) (v := .bool true) rfl (by kernel_rfl) (fun _ _ _ h => h) (Or.inl ⟨by kernel_rfl, ?y3x3⟩) hHeld ?r3x3
    case y3x3 => (intro wS hSw; (go_simp))
    try simp only [Act.put, List.setIfInBounds_toArray, List.set_cons_zero, List.set_cons_succ]
    refine wpAnyG_take (i := 4) (v := ?v4x4) rfl (by kernel_rfl) (fun _ _ _ h => h) (Or.inl ⟨by kernel_rfl, ?y4x4⟩) hHeld ?r4x4
    case y4x4 => (intro wS hSw; have s1 := hSw; go_simp; try with_reducible rfl)
    try simp only [Act.put, List.setIfInBounds_toArray, List.set_cons_zero, List.set_cons_succ]
    refine wpAnyG_take (i := 5) (v := ?v5x5) rfl (by kernel_rfl) (fun _ _ _ h => h) (Or.inl ⟨by kernel_rfl, ?y5x5⟩) hHeld ?r5x5
    case y5x5 => (intro wS hSw; have s1 := hSw; go_simp; try with_reducible rfl)
    try simp only [Act.put, List.setIfInBounds_toArray, List.set_cons_zero, List.set_cons_succ]
    refine wpAnyG_take (i := 6) (v := .bool true) rfl (by kernel_rfl) (fun _ _ _ h => h) (Or.inl ⟨by kernel_rfl, ?y6x6⟩) hHeld ?r6x6
    case y6x6 => (intro wS hSw; (go_simp))
    try simp only [Act.put, List.setIfInBounds_toArray, List.set_cons_zero, List.set_cons_succ]
    refine wpAnyG_take (i := 7) (v := .bool true) rfl (by kernel_rfl) (fun _ _ _ h => h) (Or.inl ⟨by kernel_rfl, ?y7x7⟩) hHeld ?r7x7
    case y7x7 => (intro wS hSw; (go_simp))
    try simp only [Act.put, List.setIfInBounds_toArray, List.set_cons_zero, List.set_cons_succ]
    refine wpAnyG_last (i := 8) rfl (by kernel_rfl) (by kernel_rfl) (fun K hK => ?_)
    go_simp
    refine hK.out _ _ ?_
    clear hK K
    try simp only [Act.put, List.setIfInBounds_toArray, List.set_cons_zero, List.set_cons_succ]
    refine wpAnyG_done (by kernel_rfl) ?_ _
    go_wp2
    go_ret
    exact ⟨rfl, HK7.out⟩
  · have t1 : decide (m < 0) = false := decide_eq_false hm
    go_wp2_with fail
    refine (HNm.out _ (by omega)).mono ?_
    rintro e w' ⟨rfl, hw'⟩
    rw [hw']
    clear hw' w'
    go_wp2_with fail
    refine wp_region_G (fun w' => w'.cell? ⟨w1.heap.size, 0, none⟩ = some (.int .i64 3) ∧ w'.cell? ⟨w1.heap.size, 1, none⟩ = some (.int .i64 0)) 8 (by kernel_rfl) (HR.out _ (Below.refl _ _).drew) (fun hHeld => ?_)
    refine wpAnyG_take (i := 0) (v := ?v0x8) rfl (by kernel_rfl) (fun _ _ _ h => h) (Or.inl ⟨by rfl, ?y0x8⟩) hHeld ?r0x8
    case y0x8 => (intro wS hSw; obtain ⟨s1, s2⟩ := hSw; go_simp; try with_reducible rfl)
    try simp only [Act.put, List.setIfInBounds_toArray, List.set_cons_zero, List.set_cons_succ]
    refine wpAnyG_one (i := 1) rfl (by kernel_rfl) (fun K hK => ?_)
    go_simp
    refine (F_any 3 0 _).mono ?_
    rintro e V7 ⟨rfl, kV⟩
    have kV' : Below w2.heap.size w2 V7 := (Below.refl _ _).drew.trans (kV.mono (by simp))
    have HK7 : Hid (Below w.heap.size w V7) := H2.out.2.trans (kV'.mono H2.out.2.size)
    clear hHeld
    have hHeld : V7.cell? ⟨w1.heap.size, 0, none⟩ = some (.int .i64 3) ∧ V7.cell? ⟨w1.heap.size, 1, none⟩ = some (.int .i64 0) := HR.out _ kV'
    clear kV kV'
    refine hK.out _ _ hHeld ?_
    clear hK K
    try simp only [Act.put, List.setIfInBounds_toArray, List.set_cons_zero, List.set_cons_succ]
    refine wpAnyG_take (i := 2) (v := .bool true) rfl (by kernel_rfl) (fun _ _ _ h => h) (Or.inl ⟨by kernel_rfl, ?y2x9⟩) hHeld ?r2x9
    case y2x9 => (intro wS hSw; (go_simp))
    try simp only [Act.put, List.setIfInBounds_toArray, List.set_cons_zero, List.set_cons_succ]
    refine wpAnyG_take (i := 3) (v := .bool true) rfl (by kernel_rfl) (fun _ _ _ h => h) (Or.inl ⟨by kernel_rfl, ?y3x10⟩) hHeld ?r3x10
    case y3x10 => (intro wS hSw; (go_simp))
    try simp only [Act.put, List.setIfInBounds_toArray, List.set_cons_zero, List.set_cons_succ]
    refine wpAnyG_take (i := 4) (v := ?v4x11) rfl (by kernel_rfl) (fun _ _ _ h => h) (Or.inl ⟨by kernel_rfl, ?y4x11⟩) hHeld ?r4x11
    case y4x11 => (intro wS hSw; have s1 := hSw; go_simp; try with_reducible rfl)
    try simp only [Act.put, List.setIfInBounds_toArray, List.set_cons_zero, List.set_cons_succ]
    refine wpAnyG_take (i := 5) (v := ?v5x12) rfl (by kernel_rfl) (fun _ _ _ h => h) (Or.inl ⟨by kernel_rfl, ?y5x12⟩) hHeld ?r5x12
    case y5x12 => (intro wS hSw; have s1 := hSw; go_simp; try with_reducible rfl)
    try simp only [Act.put, List.setIfInBounds_toArray, List.set_cons_zero, List.set_cons_succ]
    refine wpAnyG_take (i := 6) (v := .bool true) rfl (by kernel_rfl) (fun _ _ _ h => h) (Or.inl ⟨by kernel_rfl, ?y6x13⟩) hHeld ?r6x13
    case y6x13 => (intro wS hSw; (go_simp))
    try simp only [Act.put, List.setIfInBounds_toArray, List.set_cons_zero, List.set_cons_succ]
    refine wpAnyG_take (i := 7) (v := .bool true) rfl (by kernel_rfl) (fun _ _ _ h => h) (Or.inl ⟨by kernel_rfl, ?y7x14⟩) hHeld ?r7x14
    case y7x14 => (intro wS hSw; (go_simp))
    try simp only [Act.put, List.setIfInBounds_toArray, List.set_cons_zero, List.set_cons_succ]
    refine wpAnyG_last (i := 8) rfl (by kernel_rfl) (by kernel_rfl) (fun K hK => ?_)
    go_simp
    refine hK.out _ _ ?_
    clear hK K
    try simp only [Act.put, List.setIfInBounds_toArray, List.set_cons_zero, List.set_cons_succ]
    refine wpAnyG_done (by kernel_rfl) ?_ _
    go_wp2
    go_ret
    exact ⟨rfl, HK7.out⟩

end Go.Proofs.Ytcbepaionliepaa
