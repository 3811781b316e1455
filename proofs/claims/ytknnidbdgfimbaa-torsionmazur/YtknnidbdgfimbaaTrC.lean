/- The reference: Plus of two points with different X. Written by mktr.py. -/
import Derived.Test.YtknnidbdgfimbaaJnR
set_option linter.unusedSimpArgs false
set_option linter.unusedVariables false
set_option maxRecDepth 100000
namespace Go.Proofs.Ytknnidbdgfimbaa
open Go.RowKit


set_option maxRecDepth 100000 in
set_option maxHeartbeats 4000000 in
theorem Plus_chord (ai : Int) (qx qy rx ry : Nat) (X Y x y k : Rat) (m : Nat) (w : World) (hX : Rv w qx X m) (hY : Rv w qy Y m) (hx : Rv w rx x m) (hy : Rv w ry y m) (hm0 : m ≤ 300000) (hxx : X ≠ x) (hk : (y - Y) / (x - X) = k) :
    Calls Try.prog 12 #[.int .i64 ai, .agg #[.pointer (some ⟨qx, 0, none⟩), .pointer (some ⟨qy, 0, none⟩), .bool false], .agg #[.pointer (some ⟨rx, 0, none⟩), .pointer (some ⟨ry, 0, none⟩), .bool false]] w fun e w' => ∃ bx bY : Nat, e = .returned (.agg #[.pointer (some ⟨bx, 0, none⟩), .pointer (some ⟨bY, 0, none⟩), .bool false]) ∧ Rv w' bx (k * k - X - x) (64 * (4 * m + 2) + 29) ∧ Rv w' bY (k * (X - (k * k - X - x)) - Y) (64 * (4 * m + 2) + 29) ∧ Below w.heap.size w w' ∧ w.heap.size ≤ bx ∧ w.heap.size ≤ bY := by
  have HP0 : Hid (Pm w.heap.size qx qy rx ry X Y x y m w _) := Pm.new hX hY hx hy
  have hm : m ≤ 40000000 := by omega
  have hd : x - X ≠ 0 := fun e => hxx (by grind)
  clear hX hY hx hy
  go_enter Try.func12, Try.ntmps12
  go_wp2_with fail
  refine (RCmpV qx rx X x m _ (HP0.out.vX.below (tala _ _)) (HP0.out.vx.below (tala _ _)) hm).mono ?_
  rintro e W ⟨⟨c, rfl, hc⟩, k1⟩
  have P1 := HP0.out.below ((tala _ _).trans (k1.mono (by simp)))
  have R1 : RSlot W (w.heap.size + 3) := RSlot.below (by have := RSlot.new (((w.alloc (.cells #[.pointer (some ⟨qx, 0, none⟩), .pointer (some ⟨qy, 0, none⟩), .bool false] 38)).alloc (.cells #[.pointer (some ⟨rx, 0, none⟩), .pointer (some ⟨ry, 0, none⟩), .bool false] 38)).alloc (.cells #[.pointer none, .pointer none, .bool false] 38)) (.bool false) (.slice none 0 0) (.bool false) (.slice none 0 0); simpa using this) k1
  clear HP0
  have HP : Hid (Pm w.heap.size qx qy rx ry X Y x y m w W ∧ RSlot W (w.heap.size + 3)) := ⟨P1, R1⟩
  obtain ⟨s0, s1, s2, s3, s4, s5⟩ := P1.s
  obtain ⟨a0, a1, a2, a3⟩ := P1.sa
  clear P1 R1 k1
  have hc0 : (c == 0) = false := beq_eq_false_iff_ne.2 (fun e => hxx (hc.1 e))
  clear hc
  go_wp2_with fail
  have HS : Hid (∀ W', Below W.heap.size W W' → S4p w.heap.size qx qy rx ry W') := fun W' kb => (HP.out.1.below kb).s
  refine wp_region_G (S4p w.heap.size qx qy rx ry) 13 (by kernel_rfl) (HS.out _ (Below.refl _ _).drew) (fun hHeld => ?_)
  clear s0 s1 s2 s3 s4 s5 a0 a1 a2 a3
  refine wpAnyG_take (i := 0) (v := ?v0x1) rfl (by kernel_rfl) (fun _ _ _ h => h) (Or.inl ⟨by rfl, ?y0x1⟩) hHeld ?r0x1
  case y0x1 => (intro wS hSw; obtain ⟨s1, s2, s3, s4, s5, s6⟩ := hSw; go_simp; try with_reducible rfl)
  simp only [Act.put, List.getElem_toArray, List.getElem_cons_zero, List.getElem_cons_succ, List.setIfInBounds_toArray, List.set_cons_zero, List.set_cons_succ]
  refine wpAnyG_take (i := 2) (v := ?v2x2) rfl (by kernel_rfl) (fun _ _ _ h => h) (Or.inl ⟨by rfl, ?y2x2⟩) hHeld ?r2x2
  case y2x2 => (intro wS hSw; obtain ⟨s1, s2, s3, s4, s5, s6⟩ := hSw; go_simp; try with_reducible rfl)
  simp only [Act.put, List.getElem_toArray, List.getElem_cons_zero, List.getElem_cons_succ, List.setIfInBounds_toArray, List.set_cons_zero, List.set_cons_succ]
  refine wpAnyG_take (i := 3) (v := ?v3x3) rfl (by kernel_rfl) (fun _ _ _ h => h) (Or.inl ⟨by rfl, ?y3x3⟩) hHeld ?r3x3
  case y3x3 => (intro wS hSw; obtain ⟨s1, s2, s3, s4, s5, s6⟩ := hSw; go_simp; try with_reducible rfl)
  simp only [Act.put, List.getElem_toArray, List.getElem_cons_zero, List.getElem_cons_succ, List.setIfInBounds_toArray, List.set_cons_zero, List.set_cons_succ]
  refine wpAnyG_take (i := 4) (v := ?v4x4) rfl (by kernel_rfl) (fun _ _ _ h => h) (Or.inl ⟨by rfl, ?y4x4⟩) hHeld ?r4x4
  case y4x4 => (intro wS hSw; obtain ⟨s1, s2, s3, s4, s5, s6⟩ := hSw; go_simp; try with_reducible rfl)
  simp only [Act.put, List.getElem_toArray, List.getElem_cons_zero, List.getElem_cons_succ, List.setIfInBounds_toArray, List.set_cons_zero, List.set_cons_succ]
  refine wpAnyG_take (i := 5) (v := ?v5x5) rfl (by kernel_rfl) (fun _ _ _ h => h) (Or.inl ⟨by rfl, ?y5x5⟩) hHeld ?r5x5
  case y5x5 => (intro wS hSw; obtain ⟨s1, s2, s3, s4, s5, s6⟩ := hSw; go_simp; try with_reducible rfl)
  simp only [Act.put, List.getElem_toArray, List.getElem_cons_zero, List.getElem_cons_succ, List.setIfInBounds_toArray, List.set_cons_zero, List.set_cons_succ]
  refine wpAnyG_take (i := 8) (v := ?v8x6) rfl (by kernel_rfl) (fun _ _ _ h => h) (Or.inl ⟨by rfl, ?y8x6⟩) hHeld ?r8x6
  case y8x6 => (intro wS hSw; obtain ⟨s1, s2, s3, s4, s5, s6⟩ := hSw; go_simp; try with_reducible rfl)
  simp only [Act.put, List.getElem_toArray, List.getElem_cons_zero, List.getElem_cons_succ, List.setIfInBounds_toArray, List.set_cons_zero, List.set_cons_succ]
  refine wpAnyG_take (i := 9) (v := ?v9x7) rfl (by kernel_rfl) (fun _ _ _ h => h) (Or.inl ⟨by rfl, ?y9x7⟩) hHeld ?r9x7
  case y9x7 => (intro wS hSw; obtain ⟨s1, s2, s3, s4, s5, s6⟩ := hSw; go_simp; try with_reducible rfl)
  simp only [Act.put, List.getElem_toArray, List.getElem_cons_zero, List.getElem_cons_succ, List.setIfInBounds_toArray, List.set_cons_zero, List.set_cons_succ]
  refine wpAnyG_take (i := 10) (v := ?v10x8) rfl (by kernel_rfl) (fun _ _ _ h => h) (Or.inl ⟨by rfl, ?y10x8⟩) hHeld ?r10x8
  case y10x8 => (intro wS hSw; obtain ⟨s1, s2, s3, s4, s5, s6⟩ := hSw; go_simp; try with_reducible rfl)
  simp only [Act.put, List.getElem_toArray, List.getElem_cons_zero, List.getElem_cons_succ, List.setIfInBounds_toArray, List.set_cons_zero, List.set_cons_succ]
  refine wpAnyG_take (i := 11) (v := ?v11x9) rfl (by kernel_rfl) (fun _ _ _ h => h) (Or.inl ⟨by rfl, ?y11x9⟩) hHeld ?r11x9
  case y11x9 => (intro wS hSw; obtain ⟨s1, s2, s3, s4, s5, s6⟩ := hSw; go_simp; try with_reducible rfl)
  simp only [Act.put, List.getElem_toArray, List.getElem_cons_zero, List.getElem_cons_succ, List.setIfInBounds_toArray, List.set_cons_zero, List.set_cons_succ]
  clear hHeld
  refine wpAnyG_inv (fun n l a w1 => (n = 5 ∧ l = #[true, false, true, true, true, true, false, false, true, true, true, true, false, false] ∧ a = { tmps := ((.int .i64 ai) :: (.agg #[.pointer (some ⟨qx, 0, none⟩), .pointer (some ⟨qy, 0, none⟩), .bool false]) :: (.agg #[.pointer (some ⟨rx, 0, none⟩), .pointer (some ⟨ry, 0, none⟩), .bool false]) :: (undef) :: (.pointer (some ⟨w.heap.size, 0, none⟩)) :: (.pointer (some ⟨(w.heap.size + 1), 0, none⟩)) :: (.pointer (some ⟨(w.heap.size + 2), 0, none⟩)) :: (.pointer (some ⟨(w.heap.size + 3), 0, none⟩)) :: (undef) :: (undef) :: (.pointer (some ⟨w.heap.size, 2, none⟩)) :: (.bool false) :: (undef) :: (.pointer (some ⟨(w.heap.size + 1), 2, none⟩)) :: (.bool false) :: (undef) :: (.pointer (some ⟨(w.heap.size + 3), 0, none⟩)) :: (.pointer (some ⟨w.heap.size, 0, none⟩)) :: (.pointer (some ⟨qx, 0, none⟩)) :: (.pointer (some ⟨(w.heap.size + 1), 0, none⟩)) :: (.pointer (some ⟨rx, 0, none⟩)) :: (.int .i64 c) :: (.bool false) :: (undef) :: (undef) :: (undef) :: (undef) :: (undef) :: (undef) :: (undef) :: (undef) :: (undef) :: (undef) :: (undef) :: (undef) :: (undef) :: (undef) :: (undef) :: (undef) :: (undef) :: (undef) :: (undef) :: (undef) :: (undef) :: (undef) :: (undef) :: (undef) :: (undef) :: (undef) :: (undef) :: (undef) :: (undef) :: (undef) :: (undef) :: (undef) :: (undef) :: (undef) :: (.pointer (some ⟨(w.heap.size + 3), 0, none⟩)) :: (undef) :: (.pointer (some ⟨(w.heap.size + 1), 1, none⟩)) :: (.pointer (some ⟨ry, 0, none⟩)) :: (.pointer (some ⟨w.heap.size, 1, none⟩)) :: (.pointer (some ⟨qy, 0, none⟩)) :: (undef) :: (undef) :: (.pointer (some ⟨(w.heap.size + 1), 0, none⟩)) :: (.pointer (some ⟨rx, 0, none⟩)) :: (.pointer (some ⟨w.heap.size, 0, none⟩)) :: (.pointer (some ⟨qx, 0, none⟩)) :: (undef) :: (undef) :: (undef) :: (undef) :: (undef) :: (undef) :: (undef) :: (undef) :: (undef) :: (undef) :: (undef) :: (undef) :: (undef) :: (undef) :: (undef) :: (undef) :: (undef) :: (undef) :: (undef) :: (undef) :: (undef) :: (undef) :: (undef) :: (undef) :: (undef) :: (undef) :: (undef) :: (undef) :: (undef) :: (undef) :: (undef) :: []).toArray, defers := [] } ∧ Hid (Below W.heap.size W w1)) ∨ (∃ b0 : Nat, n = 4 ∧ l = #[true, true, true, true, true, true, false, false, true, true, true, true, false, false] ∧ a = { tmps := ((.int .i64 ai) :: (.agg #[.pointer (some ⟨qx, 0, none⟩), .pointer (some ⟨qy, 0, none⟩), .bool false]) :: (.agg #[.pointer (some ⟨rx, 0, none⟩), .pointer (some ⟨ry, 0, none⟩), .bool false]) :: (undef) :: (.pointer (some ⟨w.heap.size, 0, none⟩)) :: (.pointer (some ⟨(w.heap.size + 1), 0, none⟩)) :: (.pointer (some ⟨(w.heap.size + 2), 0, none⟩)) :: (.pointer (some ⟨(w.heap.size + 3), 0, none⟩)) :: (undef) :: (undef) :: (.pointer (some ⟨w.heap.size, 2, none⟩)) :: (.bool false) :: (undef) :: (.pointer (some ⟨(w.heap.size + 1), 2, none⟩)) :: (.bool false) :: (undef) :: (.pointer (some ⟨(w.heap.size + 3), 0, none⟩)) :: (.pointer (some ⟨w.heap.size, 0, none⟩)) :: (.pointer (some ⟨qx, 0, none⟩)) :: (.pointer (some ⟨(w.heap.size + 1), 0, none⟩)) :: (.pointer (some ⟨rx, 0, none⟩)) :: (.int .i64 c) :: (.bool false) :: (undef) :: (undef) :: (undef) :: (undef) :: (undef) :: (undef) :: (undef) :: (undef) :: (undef) :: (undef) :: (undef) :: (undef) :: (undef) :: (undef) :: (undef) :: (undef) :: (undef) :: (undef) :: (undef) :: (undef) :: (undef) :: (undef) :: (undef) :: (undef) :: (undef) :: (undef) :: (undef) :: (undef) :: (undef) :: (undef) :: (undef) :: (undef) :: (undef) :: (undef) :: (.pointer (some ⟨(w.heap.size + 3), 0, none⟩)) :: (.pointer (some ⟨b0, 0, none⟩)) :: (.pointer (some ⟨(w.heap.size + 1), 1, none⟩)) :: (.pointer (some ⟨ry, 0, none⟩)) :: (.pointer (some ⟨w.heap.size, 1, none⟩)) :: (.pointer (some ⟨qy, 0, none⟩)) :: (undef) :: (undef) :: (.pointer (some ⟨(w.heap.size + 1), 0, none⟩)) :: (.pointer (some ⟨rx, 0, none⟩)) :: (.pointer (some ⟨w.heap.size, 0, none⟩)) :: (.pointer (some ⟨qx, 0, none⟩)) :: (undef) :: (undef) :: (undef) :: (undef) :: (undef) :: (undef) :: (undef) :: (undef) :: (undef) :: (undef) :: (undef) :: (undef) :: (undef) :: (undef) :: (undef) :: (undef) :: (undef) :: (undef) :: (undef) :: (undef) :: (undef) :: (undef) :: (undef) :: (undef) :: (undef) :: (undef) :: (undef) :: (undef) :: (undef) :: (undef) :: (undef) :: []).toArray, defers := [] } ∧ Hid (Below W.heap.size W w1 ∧ W.heap.size ≤ b0 ∧ RSlot w1 b0)) ∨ (∃ b1 : Nat, n = 4 ∧ l = #[true, false, true, true, true, true, false, true, true, true, true, true, false, false] ∧ a = { tmps := ((.int .i64 ai) :: (.agg #[.pointer (some ⟨qx, 0, none⟩), .pointer (some ⟨qy, 0, none⟩), .bool false]) :: (.agg #[.pointer (some ⟨rx, 0, none⟩), .pointer (some ⟨ry, 0, none⟩), .bool false]) :: (undef) :: (.pointer (some ⟨w.heap.size, 0, none⟩)) :: (.pointer (some ⟨(w.heap.size + 1), 0, none⟩)) :: (.pointer (some ⟨(w.heap.size + 2), 0, none⟩)) :: (.pointer (some ⟨(w.heap.size + 3), 0, none⟩)) :: (undef) :: (undef) :: (.pointer (some ⟨w.heap.size, 2, none⟩)) :: (.bool false) :: (undef) :: (.pointer (some ⟨(w.heap.size + 1), 2, none⟩)) :: (.bool false) :: (undef) :: (.pointer (some ⟨(w.heap.size + 3), 0, none⟩)) :: (.pointer (some ⟨w.heap.size, 0, none⟩)) :: (.pointer (some ⟨qx, 0, none⟩)) :: (.pointer (some ⟨(w.heap.size + 1), 0, none⟩)) :: (.pointer (some ⟨rx, 0, none⟩)) :: (.int .i64 c) :: (.bool false) :: (undef) :: (undef) :: (undef) :: (undef) :: (undef) :: (undef) :: (undef) :: (undef) :: (undef) :: (undef) :: (undef) :: (undef) :: (undef) :: (undef) :: (undef) :: (undef) :: (undef) :: (undef) :: (undef) :: (undef) :: (undef) :: (undef) :: (undef) :: (undef) :: (undef) :: (undef) :: (undef) :: (undef) :: (undef) :: (undef) :: (undef) :: (undef) :: (undef) :: (undef) :: (.pointer (some ⟨(w.heap.size + 3), 0, none⟩)) :: (undef) :: (.pointer (some ⟨(w.heap.size + 1), 1, none⟩)) :: (.pointer (some ⟨ry, 0, none⟩)) :: (.pointer (some ⟨w.heap.size, 1, none⟩)) :: (.pointer (some ⟨qy, 0, none⟩)) :: (undef) :: (.pointer (some ⟨b1, 0, none⟩)) :: (.pointer (some ⟨(w.heap.size + 1), 0, none⟩)) :: (.pointer (some ⟨rx, 0, none⟩)) :: (.pointer (some ⟨w.heap.size, 0, none⟩)) :: (.pointer (some ⟨qx, 0, none⟩)) :: (undef) :: (undef) :: (undef) :: (undef) :: (undef) :: (undef) :: (undef) :: (undef) :: (undef) :: (undef) :: (undef) :: (undef) :: (undef) :: (undef) :: (undef) :: (undef) :: (undef) :: (undef) :: (undef) :: (undef) :: (undef) :: (undef) :: (undef) :: (undef) :: (undef) :: (undef) :: (undef) :: (undef) :: (undef) :: (undef) :: (undef) :: []).toArray, defers := [] } ∧ Hid (Below W.heap.size W w1 ∧ W.heap.size ≤ b1 ∧ RSlot w1 b1)) ∨ (∃ b0 : Nat, n = 3 ∧ l = #[true, true, true, true, true, true, true, false, true, true, true, true, false, false] ∧ a = { tmps := ((.int .i64 ai) :: (.agg #[.pointer (some ⟨qx, 0, none⟩), .pointer (some ⟨qy, 0, none⟩), .bool false]) :: (.agg #[.pointer (some ⟨rx, 0, none⟩), .pointer (some ⟨ry, 0, none⟩), .bool false]) :: (undef) :: (.pointer (some ⟨w.heap.size, 0, none⟩)) :: (.pointer (some ⟨(w.heap.size + 1), 0, none⟩)) :: (.pointer (some ⟨(w.heap.size + 2), 0, none⟩)) :: (.pointer (some ⟨(w.heap.size + 3), 0, none⟩)) :: (undef) :: (undef) :: (.pointer (some ⟨w.heap.size, 2, none⟩)) :: (.bool false) :: (undef) :: (.pointer (some ⟨(w.heap.size + 1), 2, none⟩)) :: (.bool false) :: (undef) :: (.pointer (some ⟨(w.heap.size + 3), 0, none⟩)) :: (.pointer (some ⟨w.heap.size, 0, none⟩)) :: (.pointer (some ⟨qx, 0, none⟩)) :: (.pointer (some ⟨(w.heap.size + 1), 0, none⟩)) :: (.pointer (some ⟨rx, 0, none⟩)) :: (.int .i64 c) :: (.bool false) :: (undef) :: (undef) :: (undef) :: (undef) :: (undef) :: (undef) :: (undef) :: (undef) :: (undef) :: (undef) :: (undef) :: (undef) :: (undef) :: (undef) :: (undef) :: (undef) :: (undef) :: (undef) :: (undef) :: (undef) :: (undef) :: (undef) :: (undef) :: (undef) :: (undef) :: (undef) :: (undef) :: (undef) :: (undef) :: (undef) :: (undef) :: (undef) :: (undef) :: (undef) :: (.pointer (some ⟨(w.heap.size + 3), 0, none⟩)) :: (.pointer (some ⟨b0, 0, none⟩)) :: (.pointer (some ⟨(w.heap.size + 1), 1, none⟩)) :: (.pointer (some ⟨ry, 0, none⟩)) :: (.pointer (some ⟨w.heap.size, 1, none⟩)) :: (.pointer (some ⟨qy, 0, none⟩)) :: (.pointer (some ⟨b0, 0, none⟩)) :: (undef) :: (.pointer (some ⟨(w.heap.size + 1), 0, none⟩)) :: (.pointer (some ⟨rx, 0, none⟩)) :: (.pointer (some ⟨w.heap.size, 0, none⟩)) :: (.pointer (some ⟨qx, 0, none⟩)) :: (undef) :: (undef) :: (undef) :: (undef) :: (undef) :: (undef) :: (undef) :: (undef) :: (undef) :: (undef) :: (undef) :: (undef) :: (undef) :: (undef) :: (undef) :: (undef) :: (undef) :: (undef) :: (undef) :: (undef) :: (undef) :: (undef) :: (undef) :: (undef) :: (undef) :: (undef) :: (undef) :: (undef) :: (undef) :: (undef) :: (undef) :: []).toArray, defers := [] } ∧ Hid (Below W.heap.size W w1 ∧ W.heap.size ≤ b0 ∧ Rv w1 b0 (y - Y) (m + m + 1))) ∨ (∃ b0 b1 : Nat, n = 3 ∧ l = #[true, true, true, true, true, true, false, true, true, true, true, true, false, false] ∧ a = { tmps := ((.int .i64 ai) :: (.agg #[.pointer (some ⟨qx, 0, none⟩), .pointer (some ⟨qy, 0, none⟩), .bool false]) :: (.agg #[.pointer (some ⟨rx, 0, none⟩), .pointer (some ⟨ry, 0, none⟩), .bool false]) :: (undef) :: (.pointer (some ⟨w.heap.size, 0, none⟩)) :: (.pointer (some ⟨(w.heap.size + 1), 0, none⟩)) :: (.pointer (some ⟨(w.heap.size + 2), 0, none⟩)) :: (.pointer (some ⟨(w.heap.size + 3), 0, none⟩)) :: (undef) :: (undef) :: (.pointer (some ⟨w.heap.size, 2, none⟩)) :: (.bool false) :: (undef) :: (.pointer (some ⟨(w.heap.size + 1), 2, none⟩)) :: (.bool false) :: (undef) :: (.pointer (some ⟨(w.heap.size + 3), 0, none⟩)) :: (.pointer (some ⟨w.heap.size, 0, none⟩)) :: (.pointer (some ⟨qx, 0, none⟩)) :: (.pointer (some ⟨(w.heap.size + 1), 0, none⟩)) :: (.pointer (some ⟨rx, 0, none⟩)) :: (.int .i64 c) :: (.bool false) :: (undef) :: (undef) :: (undef) :: (undef) :: (undef) :: (undef) :: (undef) :: (undef) :: (undef) :: (undef) :: (undef) :: (undef) :: (undef) :: (undef) :: (undef) :: (undef) :: (undef) :: (undef) :: (undef) :: (undef) :: (undef) :: (undef) :: (undef) :: (undef) :: (undef) :: (undef) :: (undef) :: (undef) :: (undef) :: (undef) :: (undef) :: (undef) :: (undef) :: (undef) :: (.pointer (some ⟨(w.heap.size + 3), 0, none⟩)) :: (.pointer (some ⟨b0, 0, none⟩)) :: (.pointer (some ⟨(w.heap.size + 1), 1, none⟩)) :: (.pointer (some ⟨ry, 0, none⟩)) :: (.pointer (some ⟨w.heap.size, 1, none⟩)) :: (.pointer (some ⟨qy, 0, none⟩)) :: (undef) :: (.pointer (some ⟨b1, 0, none⟩)) :: (.pointer (some ⟨(w.heap.size + 1), 0, none⟩)) :: (.pointer (some ⟨rx, 0, none⟩)) :: (.pointer (some ⟨w.heap.size, 0, none⟩)) :: (.pointer (some ⟨qx, 0, none⟩)) :: (undef) :: (undef) :: (undef) :: (undef) :: (undef) :: (undef) :: (undef) :: (undef) :: (undef) :: (undef) :: (undef) :: (undef) :: (undef) :: (undef) :: (undef) :: (undef) :: (undef) :: (undef) :: (undef) :: (undef) :: (undef) :: (undef) :: (undef) :: (undef) :: (undef) :: (undef) :: (undef) :: (undef) :: (undef) :: (undef) :: (undef) :: []).toArray, defers := [] } ∧ Hid (Below W.heap.size W w1 ∧ W.heap.size ≤ b0 ∧ RSlot w1 b0 ∧ W.heap.size ≤ b1 ∧ RSlot w1 b1 ∧ b0 ≠ b1)) ∨ (∃ b0 b1 : Nat, n = 2 ∧ l = #[true, true, true, true, true, true, true, true, true, true, true, true, false, false] ∧ a = { tmps := ((.int .i64 ai) :: (.agg #[.pointer (some ⟨qx, 0, none⟩), .pointer (some ⟨qy, 0, none⟩), .bool false]) :: (.agg #[.pointer (some ⟨rx, 0, none⟩), .pointer (some ⟨ry, 0, none⟩), .bool false]) :: (undef) :: (.pointer (some ⟨w.heap.size, 0, none⟩)) :: (.pointer (some ⟨(w.heap.size + 1), 0, none⟩)) :: (.pointer (some ⟨(w.heap.size + 2), 0, none⟩)) :: (.pointer (some ⟨(w.heap.size + 3), 0, none⟩)) :: (undef) :: (undef) :: (.pointer (some ⟨w.heap.size, 2, none⟩)) :: (.bool false) :: (undef) :: (.pointer (some ⟨(w.heap.size + 1), 2, none⟩)) :: (.bool false) :: (undef) :: (.pointer (some ⟨(w.heap.size + 3), 0, none⟩)) :: (.pointer (some ⟨w.heap.size, 0, none⟩)) :: (.pointer (some ⟨qx, 0, none⟩)) :: (.pointer (some ⟨(w.heap.size + 1), 0, none⟩)) :: (.pointer (some ⟨rx, 0, none⟩)) :: (.int .i64 c) :: (.bool false) :: (undef) :: (undef) :: (undef) :: (undef) :: (undef) :: (undef) :: (undef) :: (undef) :: (undef) :: (undef) :: (undef) :: (undef) :: (undef) :: (undef) :: (undef) :: (undef) :: (undef) :: (undef) :: (undef) :: (undef) :: (undef) :: (undef) :: (undef) :: (undef) :: (undef) :: (undef) :: (undef) :: (undef) :: (undef) :: (undef) :: (undef) :: (undef) :: (undef) :: (undef) :: (.pointer (some ⟨(w.heap.size + 3), 0, none⟩)) :: (.pointer (some ⟨b0, 0, none⟩)) :: (.pointer (some ⟨(w.heap.size + 1), 1, none⟩)) :: (.pointer (some ⟨ry, 0, none⟩)) :: (.pointer (some ⟨w.heap.size, 1, none⟩)) :: (.pointer (some ⟨qy, 0, none⟩)) :: (.pointer (some ⟨b0, 0, none⟩)) :: (.pointer (some ⟨b1, 0, none⟩)) :: (.pointer (some ⟨(w.heap.size + 1), 0, none⟩)) :: (.pointer (some ⟨rx, 0, none⟩)) :: (.pointer (some ⟨w.heap.size, 0, none⟩)) :: (.pointer (some ⟨qx, 0, none⟩)) :: (undef) :: (undef) :: (undef) :: (undef) :: (undef) :: (undef) :: (undef) :: (undef) :: (undef) :: (undef) :: (undef) :: (undef) :: (undef) :: (undef) :: (undef) :: (undef) :: (undef) :: (undef) :: (undef) :: (undef) :: (undef) :: (undef) :: (undef) :: (undef) :: (undef) :: (undef) :: (undef) :: (undef) :: (undef) :: (undef) :: (undef) :: []).toArray, defers := [] } ∧ Hid (Below W.heap.size W w1 ∧ W.heap.size ≤ b0 ∧ Rv w1 b0 (y - Y) (m + m + 1) ∧ W.heap.size ≤ b1 ∧ RSlot w1 b1 ∧ b0 ≠ b1)) ∨ (∃ b0 b1 : Nat, n = 1 ∧ l = #[true, true, true, true, true, true, true, true, true, true, true, true, true, false] ∧ a = { tmps := ((.int .i64 ai) :: (.agg #[.pointer (some ⟨qx, 0, none⟩), .pointer (some ⟨qy, 0, none⟩), .bool false]) :: (.agg #[.pointer (some ⟨rx, 0, none⟩), .pointer (some ⟨ry, 0, none⟩), .bool false]) :: (undef) :: (.pointer (some ⟨w.heap.size, 0, none⟩)) :: (.pointer (some ⟨(w.heap.size + 1), 0, none⟩)) :: (.pointer (some ⟨(w.heap.size + 2), 0, none⟩)) :: (.pointer (some ⟨(w.heap.size + 3), 0, none⟩)) :: (undef) :: (undef) :: (.pointer (some ⟨w.heap.size, 2, none⟩)) :: (.bool false) :: (undef) :: (.pointer (some ⟨(w.heap.size + 1), 2, none⟩)) :: (.bool false) :: (undef) :: (.pointer (some ⟨(w.heap.size + 3), 0, none⟩)) :: (.pointer (some ⟨w.heap.size, 0, none⟩)) :: (.pointer (some ⟨qx, 0, none⟩)) :: (.pointer (some ⟨(w.heap.size + 1), 0, none⟩)) :: (.pointer (some ⟨rx, 0, none⟩)) :: (.int .i64 c) :: (.bool false) :: (undef) :: (undef) :: (undef) :: (undef) :: (undef) :: (undef) :: (undef) :: (undef) :: (undef) :: (undef) :: (undef) :: (undef) :: (undef) :: (undef) :: (undef) :: (undef) :: (undef) :: (undef) :: (undef) :: (undef) :: (undef) :: (undef) :: (undef) :: (undef) :: (undef) :: (undef) :: (undef) :: (undef) :: (undef) :: (undef) :: (undef) :: (undef) :: (undef) :: (undef) :: (.pointer (some ⟨(w.heap.size + 3), 0, none⟩)) :: (.pointer (some ⟨b0, 0, none⟩)) :: (.pointer (some ⟨(w.heap.size + 1), 1, none⟩)) :: (.pointer (some ⟨ry, 0, none⟩)) :: (.pointer (some ⟨w.heap.size, 1, none⟩)) :: (.pointer (some ⟨qy, 0, none⟩)) :: (.pointer (some ⟨b0, 0, none⟩)) :: (.pointer (some ⟨b1, 0, none⟩)) :: (.pointer (some ⟨(w.heap.size + 1), 0, none⟩)) :: (.pointer (some ⟨rx, 0, none⟩)) :: (.pointer (some ⟨w.heap.size, 0, none⟩)) :: (.pointer (some ⟨qx, 0, none⟩)) :: (.pointer (some ⟨b1, 0, none⟩)) :: (undef) :: (undef) :: (undef) :: (undef) :: (undef) :: (undef) :: (undef) :: (undef) :: (undef) :: (undef) :: (undef) :: (undef) :: (undef) :: (undef) :: (undef) :: (undef) :: (undef) :: (undef) :: (undef) :: (undef) :: (undef) :: (undef) :: (undef) :: (undef) :: (undef) :: (undef) :: (undef) :: (undef) :: (undef) :: (undef) :: []).toArray, defers := [] } ∧ Hid (Below W.heap.size W w1 ∧ W.heap.size ≤ b0 ∧ Rv w1 b0 (y - Y) (m + m + 1) ∧ W.heap.size ≤ b1 ∧ Rv w1 b1 (x - X) (m + m + 1) ∧ b0 ≠ b1)) ∨ (∃ b0 b1 : Nat, n = 0 ∧ l = #[true, true, true, true, true, true, true, true, true, true, true, true, true, true] ∧ a = { tmps := ((.int .i64 ai) :: (.agg #[.pointer (some ⟨qx, 0, none⟩), .pointer (some ⟨qy, 0, none⟩), .bool false]) :: (.agg #[.pointer (some ⟨rx, 0, none⟩), .pointer (some ⟨ry, 0, none⟩), .bool false]) :: (undef) :: (.pointer (some ⟨w.heap.size, 0, none⟩)) :: (.pointer (some ⟨(w.heap.size + 1), 0, none⟩)) :: (.pointer (some ⟨(w.heap.size + 2), 0, none⟩)) :: (.pointer (some ⟨(w.heap.size + 3), 0, none⟩)) :: (undef) :: (undef) :: (.pointer (some ⟨w.heap.size, 2, none⟩)) :: (.bool false) :: (undef) :: (.pointer (some ⟨(w.heap.size + 1), 2, none⟩)) :: (.bool false) :: (undef) :: (.pointer (some ⟨(w.heap.size + 3), 0, none⟩)) :: (.pointer (some ⟨w.heap.size, 0, none⟩)) :: (.pointer (some ⟨qx, 0, none⟩)) :: (.pointer (some ⟨(w.heap.size + 1), 0, none⟩)) :: (.pointer (some ⟨rx, 0, none⟩)) :: (.int .i64 c) :: (.bool false) :: (undef) :: (undef) :: (undef) :: (undef) :: (undef) :: (undef) :: (undef) :: (undef) :: (undef) :: (undef) :: (undef) :: (undef) :: (undef) :: (undef) :: (undef) :: (undef) :: (undef) :: (undef) :: (undef) :: (undef) :: (undef) :: (undef) :: (undef) :: (undef) :: (undef) :: (undef) :: (undef) :: (undef) :: (undef) :: (undef) :: (undef) :: (undef) :: (undef) :: (undef) :: (.pointer (some ⟨(w.heap.size + 3), 0, none⟩)) :: (.pointer (some ⟨b0, 0, none⟩)) :: (.pointer (some ⟨(w.heap.size + 1), 1, none⟩)) :: (.pointer (some ⟨ry, 0, none⟩)) :: (.pointer (some ⟨w.heap.size, 1, none⟩)) :: (.pointer (some ⟨qy, 0, none⟩)) :: (.pointer (some ⟨b0, 0, none⟩)) :: (.pointer (some ⟨b1, 0, none⟩)) :: (.pointer (some ⟨(w.heap.size + 1), 0, none⟩)) :: (.pointer (some ⟨rx, 0, none⟩)) :: (.pointer (some ⟨w.heap.size, 0, none⟩)) :: (.pointer (some ⟨qx, 0, none⟩)) :: (.pointer (some ⟨b1, 0, none⟩)) :: (.pointer (some ⟨(w.heap.size + 3), 0, none⟩)) :: (undef) :: (undef) :: (undef) :: (undef) :: (undef) :: (undef) :: (undef) :: (undef) :: (undef) :: (undef) :: (undef) :: (undef) :: (undef) :: (undef) :: (undef) :: (undef) :: (undef) :: (undef) :: (undef) :: (undef) :: (undef) :: (undef) :: (undef) :: (undef) :: (undef) :: (undef) :: (undef) :: (undef) :: (undef) :: []).toArray, defers := [] } ∧ Hid (W.heap.size ≤ w1.heap.size ∧ (Rv w1 (w.heap.size + 3) k (4 * m + 2) ∧ Upd (w.heap.size + 3) W w1)))) ?steps _ _ _ _ ?start
  case start => exact Or.inl (⟨rfl, rfl, rfl, (Below.refl W.heap.size W).drew⟩)
  case steps =>
    intro n l a w1 hI
    rcases hI with hI | hI | hI | hI | hI | hI | hI | hI
    · obtain ⟨rfl, rfl, rfl, HH⟩ := hI
      right
      refine ⟨4, [1, 7], rfl, by kernel_rfl, by simp, fun i hi => ?_⟩
      simp only [List.mem_cons, List.not_mem_nil, or_false] at hi
      rcases hi with rfl | rfl
      · refine ⟨_, rfl, fun K' hK => ?_⟩
        go_simp
        have K := HH.out
        refine hK.out _ _ (fun _ _ => (HS.out _ (K.alloc K.size _))) (Or.inr (Or.inl (⟨w1.heap.size, rfl, rfl, rfl, K.alloc K.size _, K.size, RSlot.new w1 _ _ _ _⟩)))
      · refine ⟨_, rfl, fun K' hK => ?_⟩
        go_simp
        have K := HH.out
        refine hK.out _ _ (fun _ _ => (HS.out _ (K.alloc K.size _))) (Or.inr (Or.inr (Or.inl (⟨w1.heap.size, rfl, rfl, rfl, K.alloc K.size _, K.size, RSlot.new w1 _ _ _ _⟩))))
    · obtain ⟨b0, rfl, rfl, rfl, HH⟩ := hI
      right
      refine ⟨3, [6, 7], rfl, by kernel_rfl, by simp, fun i hi => ?_⟩
      simp only [List.mem_cons, List.not_mem_nil, or_false] at hi
      rcases hi with rfl | rfl
      · refine ⟨_, rfl, fun K' hK => ?_⟩
        go_simp
        obtain ⟨K, ge_b0, at_b0⟩ := HH.out
        refine (RSubV b0 ry qy y Y m w1 at_b0 (HP.out.1.below K).vy (HP.out.1.below K).vY hm).mono ?_
        rintro e w2 ⟨rfl, h2, u2⟩
        refine hK.out _ _ (fun _ _ => (HS.out _ (K.trans (u2.below K.size ge_b0)))) (Or.inr (Or.inr (Or.inr (Or.inl (⟨b0, rfl, rfl, rfl, (K.trans (u2.below K.size ge_b0)), ge_b0, h2⟩)))))
      · refine ⟨_, rfl, fun K' hK => ?_⟩
        go_simp
        obtain ⟨K, ge_b0, at_b0⟩ := HH.out
        refine hK.out _ _ (fun _ _ => (HS.out _ (K.alloc K.size _))) (Or.inr (Or.inr (Or.inr (Or.inr (Or.inl (⟨b0, w1.heap.size, rfl, rfl, rfl, K.alloc K.size _, ge_b0, at_b0.below (Below.alloc_self' w1 _), K.size, RSlot.new w1 _ _ _ _, (Nat.ne_of_lt at_b0.lt)⟩))))))
    · obtain ⟨b1, rfl, rfl, rfl, HH⟩ := hI
      right
      refine ⟨3, [1], rfl, by kernel_rfl, by simp, fun i hi => ?_⟩
      simp only [List.mem_cons, List.not_mem_nil, or_false] at hi
      subst hi
      refine ⟨_, rfl, fun K' hK => ?_⟩
      go_simp
      obtain ⟨K, ge_b1, at_b1⟩ := HH.out
      refine hK.out _ _ (fun _ _ => (HS.out _ (K.alloc K.size _))) (Or.inr (Or.inr (Or.inr (Or.inr (Or.inl (⟨w1.heap.size, b1, rfl, rfl, rfl, K.alloc K.size _, K.size, RSlot.new w1 _ _ _ _, ge_b1, at_b1.below (Below.alloc_self' w1 _), (Nat.ne_of_gt at_b1.lt)⟩))))))
    · obtain ⟨b0, rfl, rfl, rfl, HH⟩ := hI
      right
      refine ⟨2, [7], rfl, by kernel_rfl, by simp, fun i hi => ?_⟩
      simp only [List.mem_cons, List.not_mem_nil, or_false] at hi
      subst hi
      refine ⟨_, rfl, fun K' hK => ?_⟩
      go_simp
      obtain ⟨K, ge_b0, at_b0⟩ := HH.out
      refine hK.out _ _ (fun _ _ => (HS.out _ (K.alloc K.size _))) (Or.inr (Or.inr (Or.inr (Or.inr (Or.inr (Or.inl (⟨b0, w1.heap.size, rfl, rfl, rfl, K.alloc K.size _, ge_b0, at_b0.below (Below.alloc_self' w1 _), K.size, RSlot.new w1 _ _ _ _, (Nat.ne_of_lt at_b0.lt)⟩)))))))
    · obtain ⟨b0, b1, rfl, rfl, rfl, HH⟩ := hI
      right
      refine ⟨2, [6], rfl, by kernel_rfl, by simp, fun i hi => ?_⟩
      simp only [List.mem_cons, List.not_mem_nil, or_false] at hi
      subst hi
      refine ⟨_, rfl, fun K' hK => ?_⟩
      go_simp
      obtain ⟨K, ge_b0, at_b0, ge_b1, at_b1, ne_b0_b1⟩ := HH.out
      refine (RSubV b0 ry qy y Y m w1 at_b0 (HP.out.1.below K).vy (HP.out.1.below K).vY hm).mono ?_
      rintro e w2 ⟨rfl, h2, u2⟩
      refine hK.out _ _ (fun _ _ => (HS.out _ (K.trans (u2.below K.size ge_b0)))) (Or.inr (Or.inr (Or.inr (Or.inr (Or.inr (Or.inl (⟨b0, b1, rfl, rfl, rfl, (K.trans (u2.below K.size ge_b0)), ge_b0, h2, ge_b1, at_b1.updR u2 (Ne.symm ne_b0_b1), ne_b0_b1⟩)))))))
    · obtain ⟨b0, b1, rfl, rfl, rfl, HH⟩ := hI
      right
      refine ⟨1, [12], rfl, by kernel_rfl, by simp, fun i hi => ?_⟩
      simp only [List.mem_cons, List.not_mem_nil, or_false] at hi
      subst hi
      refine ⟨_, rfl, fun K' hK => ?_⟩
      go_simp
      obtain ⟨K, ge_b0, at_b0, ge_b1, at_b1, ne_b0_b1⟩ := HH.out
      refine (RSubV b1 rx qx x X m w1 at_b1 (HP.out.1.below K).vx (HP.out.1.below K).vX hm).mono ?_
      rintro e w2 ⟨rfl, h2, u2⟩
      refine hK.out _ _ (fun _ _ => (HS.out _ (K.trans (u2.below K.size ge_b1)))) (Or.inr (Or.inr (Or.inr (Or.inr (Or.inr (Or.inr (Or.inl (⟨b0, b1, rfl, rfl, rfl, (K.trans (u2.below K.size ge_b1)), ge_b0, at_b0.updR u2 at_b1 ne_b0_b1, ge_b1, h2, ne_b0_b1⟩))))))))
    · obtain ⟨b0, b1, rfl, rfl, rfl, HH⟩ := hI
      right
      refine ⟨0, [13], rfl, by kernel_rfl, by simp, fun i hi => ?_⟩
      simp only [List.mem_cons, List.not_mem_nil, or_false] at hi
      subst hi
      refine ⟨_, rfl, fun K' hK => ?_⟩
      go_simp
      obtain ⟨K, ge_b0, at_b0, ge_b1, at_b1, ne_b0_b1⟩ := HH.out
      refine (RQuoV (w.heap.size + 3) b0 b1 (y - Y) (x - X) (m + m + 1) w1 (HP.out.2.below K) at_b0 at_b1 (by omega) hd).mono ?_
      rintro e w2 ⟨rfl, h2, u2⟩
      have E : (Rv w2 (w.heap.size + 3) k (4 * m + 2) ∧ Upd (w.heap.size + 3) W w2) := ⟨by rw [← hk]; exact h2.le (by omega), (Upd.of_below K).trans u2⟩
      have Z : W.heap.size ≤ w2.heap.size := Nat.le_trans K.size u2.size
      refine hK.out _ _ (fun _ h => absurd rfl h) (Or.inr (Or.inr (Or.inr (Or.inr (Or.inr (Or.inr (Or.inr (⟨b0, b1, rfl, rfl, rfl, Z, E⟩))))))))
    · obtain ⟨b0, b1, rfl, rfl, rfl, HH⟩ := hI
      obtain ⟨Z, E⟩ := HH.out
      left
      refine ⟨by kernel_rfl, ?_⟩
      have HVV : Pm w.heap.size qx qy rx ry X Y x y m w w1 ∧ Rv w1 (w.heap.size + 3) k (4 * m + 2) := ⟨HP.out.1.upd E.2 HP.out.2 (by omega), E.1⟩
      clear HH E Z HP HS
      have HV : Hid (Pm w.heap.size qx qy rx ry X Y x y m w w1 ∧ Rv w1 (w.heap.size + 3) k (4 * m + 2)) := HVV
      obtain ⟨s0, s1, s2, s3, s4, s5⟩ := HV.out.1.s
      obtain ⟨a0, a1, a2, a3⟩ := HV.out.1.sa
      clear HVV
      go_wp2_with fail
      refine (RMulV w1.heap.size (w.heap.size + 3) (w.heap.size + 3) k k (4 * m + 2) _ (RSlot.new w1 _ _ _ _) (HV.out.2.below (tala _ _)) (HV.out.2.below (tala _ _)) (by omega)).mono ?_
      rintro e v1 ⟨rfl, x1, u1⟩
      have h3 : w.heap.size + 3 < w1.heap.size := HV.out.2.lt
      have HV1 : Hid (Pm w.heap.size qx qy rx ry X Y x y m w v1 ∧ Rv v1 (w.heap.size + 3) k (4 * m + 2) ∧ Rv v1 w1.heap.size (k * k) ((4 * m + 2) + (4 * m + 2))) := ⟨(HV.out.1.below (tala w1 (.cells #[.bool false, .slice none 0 0, .bool false, .slice none 0 0] 59))).upd u1 (RSlot.new w1 _ _ _ _) (by omega), (HV.out.2.below (tala w1 (.cells #[.bool false, .slice none 0 0, .bool false, .slice none 0 0] 59))).updR u1 (RSlot.new w1 _ _ _ _) (by omega), x1⟩
      have Hh3 : Hid (w.heap.size + 3 < w1.heap.size) := h3
      clear x1 u1 HV h3 s0 s1 s2 s3 s4 s5 a0 a1 a2 a3
      obtain ⟨s0, s1, s2, s3, s4, s5⟩ := HV1.out.1.s
      go_wp2_with fail
      refine (RSubV w1.heap.size w1.heap.size qx (k * k) X ((4 * m + 2) + (4 * m + 2)) v1 HV1.out.2.2.rslot HV1.out.2.2 (HV1.out.1.vX.le (by omega)) (by omega)).mono ?_
      rintro e v2 ⟨rfl, x1, u1⟩
      have HV2 : Hid (Pm w.heap.size qx qy rx ry X Y x y m w v2 ∧ Rv v2 (w.heap.size + 3) k (4 * m + 2) ∧ Rv v2 w1.heap.size (k * k - X) ((4 * m + 2) + (4 * m + 2) + ((4 * m + 2) + (4 * m + 2)) + 1)) := ⟨HV1.out.1.upd u1 HV1.out.2.2.rslot (by have := Hh3.out; omega), HV1.out.2.1.updR u1 HV1.out.2.2.rslot (by have := Hh3.out; omega), x1⟩
      clear x1 u1 HV1 s0 s1 s2 s3 s4 s5
      obtain ⟨s0, s1, s2, s3, s4, s5⟩ := HV2.out.1.s
      go_wp2_with fail
      refine (RSubV w1.heap.size w1.heap.size rx (k * k - X) x ((4 * m + 2) + (4 * m + 2) + ((4 * m + 2) + (4 * m + 2)) + 1) v2 HV2.out.2.2.rslot HV2.out.2.2 (HV2.out.1.vx.le (by omega)) (by omega)).mono ?_
      rintro e v3 ⟨rfl, x1, u1⟩
      have HV3 : Hid (Pm w.heap.size qx qy rx ry X Y x y m w v3 ∧ Rv v3 (w.heap.size + 3) k (4 * m + 2) ∧ Rv v3 w1.heap.size (k * k - X - x) (8 * (4 * m + 2) + 3)) := ⟨HV2.out.1.upd u1 HV2.out.2.2.rslot (by have := Hh3.out; omega), HV2.out.2.1.updR u1 HV2.out.2.2.rslot (by have := Hh3.out; omega), x1.le (by omega)⟩
      clear x1 u1 HV2 s0 s1 s2 s3 s4 s5
      obtain ⟨s0, s1, s2, s3, s4, s5⟩ := HV3.out.1.s
      have A2 : ∀ o1 o2 : Obj, S4p w.heap.size qx qy rx ry ((v3.alloc o1).alloc o2) := fun o1 o2 => (HV3.out.1.below ((tala v3 o1).trans ((tala _ o2).mono (by simp)))).s
      have b0 : ∀ o1 o2 : Obj, ((v3.alloc o1).alloc o2).cell? ⟨w.heap.size, 0, none⟩ = some (.pointer (some ⟨qx, 0, none⟩)) := fun o1 o2 => (A2 o1 o2).1
      clear A2
      go_wp2_with fail
      have KA : Below v3.heap.size v3 ((v3.alloc (.cells #[.bool false, .slice none 0 0, .bool false, .slice none 0 0] 59)).alloc (.cells #[.bool false, .slice none 0 0, .bool false, .slice none 0 0] 59)) := (tala v3 _).trans ((tala _ _).mono (by simp))
      have RA : RSlot ((v3.alloc (.cells #[.bool false, .slice none 0 0, .bool false, .slice none 0 0] 59)).alloc (.cells #[.bool false, .slice none 0 0, .bool false, .slice none 0 0] 59)) v3.heap.size := (RSlot.new v3 _ _ _ _).below (tala _ _)
      have RB : RSlot ((v3.alloc (.cells #[.bool false, .slice none 0 0, .bool false, .slice none 0 0] 59)).alloc (.cells #[.bool false, .slice none 0 0, .bool false, .slice none 0 0] 59)) (v3.heap.size + 1) := by have := RSlot.new (v3.alloc (.cells #[.bool false, .slice none 0 0, .bool false, .slice none 0 0] 59)) (.bool false) (.slice none 0 0) (.bool false) (.slice none 0 0); simpa using this
      have h4 : w.heap.size + 3 < v3.heap.size ∧ w1.heap.size < v3.heap.size := ⟨HV3.out.2.1.lt, HV3.out.2.2.lt⟩
      refine (RSubV (v3.heap.size + 1) qx w1.heap.size X (k * k - X - x) (8 * (4 * m + 2) + 3) _ RB ((HV3.out.1.vX.below KA).le (by omega)) (HV3.out.2.2.below KA) (by omega)).mono ?_
      rintro e v4 ⟨rfl, x1, u1⟩
      have HV4 : Hid (Pm w.heap.size qx qy rx ry X Y x y m w v4 ∧ Rv v4 (w.heap.size + 3) k (4 * m + 2) ∧ Rv v4 w1.heap.size (k * k - X - x) (8 * (4 * m + 2) + 3) ∧ RSlot v4 v3.heap.size ∧ Rv v4 (v3.heap.size + 1) (X - (k * k - X - x)) (16 * (4 * m + 2) + 7)) :=
        ⟨(HV3.out.1.below KA).upd u1 RB (by omega), (HV3.out.2.1.below KA).updR u1 RB (by omega), (HV3.out.2.2.below KA).updR u1 RB (by omega), RA.updR u1 (by omega), x1.le (by omega)⟩
      have Hh4 : Hid (w.heap.size + 3 < v3.heap.size ∧ w1.heap.size < v3.heap.size) := h4
      clear x1 u1 HV3 s0 s1 s2 s3 s4 s5 KA RA RB h4 b0
      go_wp2_with fail
      refine (RMulV v3.heap.size (w.heap.size + 3) (v3.heap.size + 1) k (X - (k * k - X - x)) (16 * (4 * m + 2) + 7) v4 HV4.out.2.2.2.1 (HV4.out.2.1.le (by omega)) HV4.out.2.2.2.2 (by omega)).mono ?_
      rintro e v5 ⟨rfl, x1, u1⟩
      have HV5 : Hid (Pm w.heap.size qx qy rx ry X Y x y m w v5 ∧ Rv v5 w1.heap.size (k * k - X - x) (8 * (4 * m + 2) + 3) ∧ Rv v5 v3.heap.size (k * (X - (k * k - X - x))) (32 * (4 * m + 2) + 14)) :=
        ⟨HV4.out.1.upd u1 HV4.out.2.2.2.1 (by have := Hh4.out; omega), HV4.out.2.2.1.updR u1 HV4.out.2.2.2.1 (by have := Hh4.out; omega), x1.le (by omega)⟩
      clear x1 u1 HV4
      obtain ⟨s0, s1, s2, s3, s4, s5⟩ := HV5.out.1.s
      go_wp2_with fail
      refine (RSubV v3.heap.size v3.heap.size qy (k * (X - (k * k - X - x))) Y (32 * (4 * m + 2) + 14) v5 HV5.out.2.2.rslot HV5.out.2.2 (HV5.out.1.vY.le (by omega)) (by omega)).mono ?_
      rintro e v6 ⟨rfl, x1, u1⟩
      have HV6 : Hid (Pm w.heap.size qx qy rx ry X Y x y m w v6 ∧ Rv v6 w1.heap.size (k * k - X - x) (64 * (4 * m + 2) + 29) ∧ Rv v6 v3.heap.size (k * (X - (k * k - X - x)) - Y) (64 * (4 * m + 2) + 29)) :=
        ⟨HV5.out.1.upd u1 HV5.out.2.2.rslot (by have := Hh4.out; omega), (HV5.out.2.1.updR u1 HV5.out.2.2.rslot (by have := Hh4.out; omega)).le (by omega), x1.le (by omega)⟩
      clear x1 u1 HV5 s0 s1 s2 s3 s4 s5
      have o0 : v6.cell? ⟨w.heap.size + 2, 0, none⟩ = some (.pointer none) := HV6.out.1.o.cell 0
      have o1 : v6.cell? ⟨w.heap.size + 2, 1, none⟩ = some (.pointer none) := HV6.out.1.o.cell 1
      have o2 : v6.cell? ⟨w.heap.size + 2, 2, none⟩ = some (.bool false) := HV6.out.1.o.cell 2
      have f0 := HV6.out.1.o.frozen 0
      have f1 := HV6.out.1.o.frozen 1
      have f2 := HV6.out.1.o.frozen 2
      have HE : Hid (Rv (((v6.setCell ⟨w.heap.size + 2, 0, none⟩ (.pointer (some ⟨w1.heap.size, 0, none⟩))).setCell ⟨w.heap.size + 2, 1, none⟩ (.pointer (some ⟨v3.heap.size, 0, none⟩))).setCell ⟨w.heap.size + 2, 2, none⟩ (.bool false)) w1.heap.size (k * k - X - x) (64 * (4 * m + 2) + 29) ∧ Rv (((v6.setCell ⟨w.heap.size + 2, 0, none⟩ (.pointer (some ⟨w1.heap.size, 0, none⟩))).setCell ⟨w.heap.size + 2, 1, none⟩ (.pointer (some ⟨v3.heap.size, 0, none⟩))).setCell ⟨w.heap.size + 2, 2, none⟩ (.bool false)) v3.heap.size (k * (X - (k * k - X - x)) - Y) (64 * (4 * m + 2) + 29) ∧ Below w.heap.size w (((v6.setCell ⟨w.heap.size + 2, 0, none⟩ (.pointer (some ⟨w1.heap.size, 0, none⟩))).setCell ⟨w.heap.size + 2, 1, none⟩ (.pointer (some ⟨v3.heap.size, 0, none⟩))).setCell ⟨w.heap.size + 2, 2, none⟩ (.bool false)) ∧ w.heap.size ≤ w1.heap.size ∧ w.heap.size ≤ v3.heap.size) := by
        have U := upd3 v6 (w.heap.size + 2) (.pointer (some ⟨w1.heap.size, 0, none⟩)) (.pointer (some ⟨v3.heap.size, 0, none⟩)) (.bool false)
        have := Hh3.out
        have := Hh4.out
        exact ⟨HV6.out.2.1.updP U HV6.out.1.o, HV6.out.2.2.updP U HV6.out.1.o, HV6.out.1.k.trans (U.below (by have := HV6.out.1.q.lt; omega) (by omega)), by omega, by omega⟩
      have Z := ((HV6.out.1.o.set 0 (.pointer (some ⟨w1.heap.size, 0, none⟩))).set 1 (.pointer (some ⟨v3.heap.size, 0, none⟩))).set 2 (.bool false)
      have HZ : Hid (_ ∧ _ ∧ _) := ⟨Z.cell 0, Z.cell 1, Z.cell 2⟩
      clear Z HV6
      go_wp2
      obtain ⟨z0, z1, z2⟩ := HZ.out
      simp at z0 z1 z2
      exact bodyPost_ret (v := .agg #[.pointer (some ⟨w1.heap.size, 0, none⟩), .pointer (some ⟨v3.heap.size, 0, none⟩), .bool false]) (by simp [results, Try.results12, go_sem, z0, z1, z2]) rfl ⟨_, _, rfl, HE.out⟩

end Go.Proofs.Ytknnidbdgfimbaa
