/- takeApart's own comparison, and slices.SortFunc of the example's two primes. -/
import Derived.Test.YtoionlnbodfhlacGreatDoorGfC
import Derived.RegionTactic
import Derived.BigRegion
set_option linter.unusedSimpArgs false
set_option linter.unusedVariables false
set_option maxRecDepth 100000
namespace Go.Proofs.YtoionlnbodfhlacGreatDoor
open Go.RowKit

theorem row3_drew {B n c g : Nat} {t : TypeId} {W : World} {xs : List Value} (h : W.ownsRow B t 3 (.slice (some ⟨g, 0, none⟩) n c) n xs) : W.drew.ownsRow B t 3 (.slice (some ⟨g, 0, none⟩) n c) n xs := row3_below h ((Below.refl _ _).drew)

set_option maxHeartbeats 1000000 in
theorem cmpf_5 (k : Kd) (K : KdIs 0 k) (b : Nat) (w : World) (hb : Kt b k w) : Calls Tryz.prog 140 #[.agg #[.int .i64 1, .int .i64 2, .int .i64 1], .agg #[.int .i64 2, .int .i64 1, .int .i64 1], .pointer (some ⟨b, 0, none⟩)] w fun e w' => e = .returned (.int .i64 (-1)) ∧ Below w.heap.size w w' := by
  have HC : Hid (∀ w, Calls Tryz.prog 141 #[k.v, pv ⟨1, 2⟩, pv ⟨2, 1⟩] w fun e w' => e = .returned (.int .i64 (-1)) ∧ Below w.heap.size w w') := fun w => compare_5 k K w
  have HB : Hid (Kt b k w) := hb
  clear K hb
  obtain ⟨u, o, ft, fm, fc, fs⟩ := k
  have r : ∀ x y : Obj, Rk b ⟨u, o, ft, fm, fc, fs⟩ ((w.alloc x).alloc y) := fun x y => Kt.rd ((HB.out.alloc x).alloc y)
  have r0 := fun x y => (r x y).1
  have r1 := fun x y => (r x y).2.1
  have r2 := fun x y => (r x y).2.2.1
  have r3 := fun x y => (r x y).2.2.2.1
  have r4 := fun x y => (r x y).2.2.2.2.1
  have r5 := fun x y => (r x y).2.2.2.2.2.1
  have r6 := fun x y => (r x y).2.2.2.2.2.2
  clear r
  go_enter Tryz.func140, Tryz.ntmps140
  go_wp2_with fail
  refine (HC.out _).mono ?_
  rintro e w1 ⟨rfl, k1⟩
  have HK1 : Hid (Below w.heap.size w w1) := (below2 _ _ _).trans (k1.mono (by simp; omega))
  clear k1 r0 r1 r2 r3 r4 r5 r6
  go_wp2_with fail
  go_ret
  exact ⟨rfl, HK1.out⟩

/-- The two primes with their powers lie in the row. -/
structure Rf (B g cap : Nat) (w : World) (l : List Value) (W : World) : Prop where
  row : W.ownsRow B 60 3 (.slice (some ⟨g, 0, none⟩) 2 cap) 2 l
  b : Below B w W
theorem Rf.drew {B g cap : Nat} {w : World} {l : List Value} {W : World} (h : Rf B g cap w l W) : Rf B g cap w l W.drew := ⟨row3_drew h.row, h.b.drew⟩
theorem Rf.below {B g cap : Nat} {w : World} {l : List Value} {W W' : World} (h : Rf B g cap w l W) (k : Below W.heap.size W W') : Rf B g cap w l W' := ⟨row3_below h.row k, h.b.trans (k.mono (by have := h.row.lt g rfl; omega))⟩
abbrev lA : List Value := [.int .i64 2, .int .i64 1, .int .i64 1, .int .i64 1, .int .i64 2, .int .i64 1]
abbrev lC : List Value := [.int .i64 1, .int .i64 2, .int .i64 1, .int .i64 2, .int .i64 1, .int .i64 1]
/-- The six cells. -/
abbrev S6 (g : Nat) (a b c d e f : Int) (W : World) : Prop := W.cell? ⟨g, 0, none⟩ = some (.int .i64 a) ∧ W.cell? ⟨g, 1, none⟩ = some (.int .i64 b) ∧ W.cell? ⟨g, 2, none⟩ = some (.int .i64 c) ∧ W.cell? ⟨g, 3, none⟩ = some (.int .i64 d) ∧ W.cell? ⟨g, 4, none⟩ = some (.int .i64 e) ∧ W.cell? ⟨g, 5, none⟩ = some (.int .i64 f)
theorem Rf.s6 {B g cap : Nat} {w W : World} (h : Rf B g cap w lA W) : S6 g 2 1 1 1 2 1 W :=
  ⟨h.row.cellAt 0 (by decide), h.row.cellAt 1 (by decide), h.row.cellAt 2 (by decide), h.row.cellAt 3 (by decide), h.row.cellAt 4 (by decide), h.row.cellAt 5 (by decide)⟩

theorem Rf.swap {B g cap : Nat} {w W : World} (h : Rf B g cap w lA W) :
    Rf B g cap w lC ((((((W.setCell ⟨g, 3, none⟩ (.int .i64 2)).setCell ⟨g, 4, none⟩ (.int .i64 1)).setCell ⟨g, 5, none⟩ (.int .i64 1)).setCell ⟨g, 0, none⟩ (.int .i64 1)).setCell ⟨g, 1, none⟩ (.int .i64 2)).setCell ⟨g, 2, none⟩ (.int .i64 1)).drew := by
  have hg := (h.row.lt g rfl).1
  refine ⟨?_, ((((((h.b.setCell hg _).setCell hg _).setCell hg _).setCell hg _).setCell hg _).setCell hg _).drew⟩
  have h1 := ((((((h.row.stored 3 (.int .i64 2)).1.stored 4 (.int .i64 1)).1.stored 5 (.int .i64 1)).1.stored 0 (.int .i64 1)).1.stored 1 (.int .i64 2)).1.stored 2 (.int .i64 1)).1
  exact row3_drew h1

set_option maxHeartbeats 4000000 in
theorem insertionF_2 (k : Kd) (K : KdIs 0 k) (b B g cap : Nat) (w : World) (hb : Kt b k w) (hbB : b < B) (hc : 2 ≤ cap) (h0 : w.ownsRow B 60 3 (.slice (some ⟨g, 0, none⟩) 2 cap) 2 [.int .i64 2, .int .i64 1, .int .i64 1, .int .i64 1, .int .i64 2, .int .i64 1]) :
    Calls Tryz.prog 192 #[.slice (some ⟨g, 0, none⟩) 2 cap, .int .i64 0, .int .i64 2, .func (.func 140) #[] #[.pointer (some ⟨b, 0, none⟩)]] w fun e w' => (∃ v, e = .returned v) ∧ w'.ownsRow B 60 3 (.slice (some ⟨g, 0, none⟩) 2 cap) 2 [.int .i64 1, .int .i64 2, .int .i64 1, .int .i64 2, .int .i64 1, .int .i64 1] ∧ Below B w w' := by
  have HR : Hid (Rf B g cap w lA w) := ⟨h0, Below.refl _ _⟩
  have HC : Hid (∀ W, Below B w W → Calls Tryz.prog 140 #[.agg #[.int .i64 1, .int .i64 2, .int .i64 1], .agg #[.int .i64 2, .int .i64 1, .int .i64 1], .pointer (some ⟨b, 0, none⟩)] W fun e w' => e = .returned (.int .i64 (-1)) ∧ Below W.heap.size W w') := fun W k' => cmpf_5 k K b W ((k'.block b hbB).trans hb)
  clear h0 hb K
  go_enter Tryz.func192, Tryz.ntmps192
  go_wp2
  go_loopw [8] (fun iv wx => (iv = .int .i64 1 ∧ Hid (Rf B g cap w lA wx)) ∨ (iv = .int .i64 2 ∧ Hid (Rf B g cap w lC wx))) (fun iv _ => 2 - (intOf iv).toNat)
  case atStart => exact .inl ⟨rfl, HR.out⟩
  case round =>
    clear HR
    rcases hrel with ⟨rfl, HR⟩ | ⟨rfl, HR⟩
    · go_wp2
      go_loopw [9] (fun jv wx => (jv = .int .i64 1 ∧ Hid (Rf B g cap w lA wx)) ∨ (jv = .int .i64 0 ∧ Hid (Rf B g cap w lC wx))) (fun jv _ => (intOf jv).toNat)
      case atStart => exact .inl ⟨rfl, HR.out⟩
      case round =>
        clear HR
        rcases hrel with ⟨rfl, HR⟩ | ⟨rfl, HR⟩
        · go_wp2_with fail
          have R0 := HR.out.drew
          refine wp_region_G (S6 g 2 1 1 1 2 1) 16 (by kernel_rfl) R0.s6 (fun hHeld => ?_)
          refine wpAnyG_take (i := 0) (v := ?v0x1) rfl (by kernel_rfl) (fun _ _ _ h => h) (Or.inl ⟨by rfl, ?y0x1⟩) hHeld ?r0x1
          case y0x1 => (intro wS hSw; obtain ⟨s1, s2, s3, s4, s5, s6⟩ := hSw; go_simp; try with_reducible rfl)
          try simp only [Act.put, List.setIfInBounds_toArray, List.set_cons_zero, List.set_cons_succ]
          refine wpAnyG_take (i := 1) (v := ?v1x2) rfl (by kernel_rfl) (fun _ _ _ h => h) (Or.inl ⟨by rfl, ?y1x2⟩) hHeld ?r1x2
          case y1x2 => (intro wS hSw; obtain ⟨s1, s2, s3, s4, s5, s6⟩ := hSw; go_simp; try with_reducible rfl)
          try simp only [Act.put, List.setIfInBounds_toArray, List.set_cons_zero, List.set_cons_succ]
          refine wpAnyG_take (i := 2) (v := .bool true) rfl (by kernel_rfl) (fun _ _ _ h => h) (Or.inl ⟨by kernel_rfl, ?y2x3⟩) hHeld ?r2x3
          case y2x3 => (intro wS hSw; (go_simp))
          try simp only [Act.put, List.setIfInBounds_toArray, List.set_cons_zero, List.set_cons_succ]
          refine wpAnyG_take (i := 3) (v := .bool true) rfl (by kernel_rfl) (fun _ _ _ h => h) (Or.inl ⟨by kernel_rfl, ?y3x4⟩) hHeld ?r3x4
          case y3x4 => (intro wS hSw; (go_simp))
          try simp only [Act.put, List.setIfInBounds_toArray, List.set_cons_zero, List.set_cons_succ]
          refine wpAnyG_take (i := 4) (v := ?v4x5) rfl (by kernel_rfl) (fun _ _ _ h => h) (Or.inl ⟨by kernel_rfl, ?y4x5⟩) hHeld ?r4x5
          case y4x5 => (intro wS hSw; have s1 := hSw; go_simp; try with_reducible rfl)
          try simp only [Act.put, List.setIfInBounds_toArray, List.set_cons_zero, List.set_cons_succ]
          refine wpAnyG_take (i := 5) (v := ?v5x6) rfl (by kernel_rfl) (fun _ _ _ h => h) (Or.inl ⟨by kernel_rfl, ?y5x6⟩) hHeld ?r5x6
          case y5x6 => (intro wS hSw; have s1 := hSw; go_simp; try with_reducible rfl)
          try simp only [Act.put, List.setIfInBounds_toArray, List.set_cons_zero, List.set_cons_succ]
          refine wpAnyG_take (i := 6) (v := ?v6x7) rfl (by kernel_rfl) (fun _ _ _ h => h) (Or.inl ⟨by kernel_rfl, ?y6x7⟩) hHeld ?r6x7
          case y6x7 => (intro wS hSw; have s1 := hSw; go_simp; try with_reducible rfl)
          try simp only [Act.put, List.setIfInBounds_toArray, List.set_cons_zero, List.set_cons_succ]
          refine wpAnyG_take (i := 7) (v := ?v7x8) rfl (by kernel_rfl) (fun _ _ _ h => h) (Or.inl ⟨by kernel_rfl, ?y7x8⟩) hHeld ?r7x8
          case y7x8 => (intro wS hSw; have s1 := hSw; go_simp; try with_reducible rfl)
          try simp only [Act.put, List.setIfInBounds_toArray, List.set_cons_zero, List.set_cons_succ]
          refine wpAnyG_take (i := 8) (v := ?v8x9) rfl (by kernel_rfl) (fun _ _ _ h => h) (Or.inl ⟨by kernel_rfl, ?y8x9⟩) hHeld ?r8x9
          case y8x9 => (intro wS hSw; have s1 := hSw; go_simp; try with_reducible rfl)
          try simp only [Act.put, List.setIfInBounds_toArray, List.set_cons_zero, List.set_cons_succ]
          refine wpAnyG_take (i := 9) (v := ?v9x10) rfl (by kernel_rfl) (fun _ _ _ h => h) (Or.inl ⟨by kernel_rfl, ?y9x10⟩) hHeld ?r9x10
          case y9x10 => (intro wS hSw; have s1 := hSw; go_simp; try with_reducible rfl)
          try simp only [Act.put, List.setIfInBounds_toArray, List.set_cons_zero, List.set_cons_succ]
          refine wpAnyG_take (i := 10) (v := ?v10x11) rfl (by kernel_rfl) (fun _ _ _ h => h) (Or.inl ⟨by kernel_rfl, ?y10x11⟩) hHeld ?r10x11
          case y10x11 => (intro wS hSw; have s1 := hSw; go_simp; try with_reducible rfl)
          try simp only [Act.put, List.setIfInBounds_toArray, List.set_cons_zero, List.set_cons_succ]
          refine wpAnyG_take (i := 11) (v := .int .i64 0) rfl (by kernel_rfl) (fun _ _ _ h => h) (Or.inl ⟨by kernel_rfl, ?y11x12⟩) hHeld ?r11x12
          case y11x12 => (intro wS hSw; (go_simp; try rfl))
          try simp only [Act.put, List.setIfInBounds_toArray, List.set_cons_zero, List.set_cons_succ]
          refine wpAnyG_take (i := 12) (v := ?v12x13) rfl (by kernel_rfl) (fun _ _ _ h => h) (Or.inl ⟨by kernel_rfl, ?y12x13⟩) hHeld ?r12x13
          case y12x13 => (intro wS hSw; have s1 := hSw; go_simp; try with_reducible rfl)
          try simp only [Act.put, List.setIfInBounds_toArray, List.set_cons_zero, List.set_cons_succ]
          refine wpAnyG_take (i := 13) (v := ?v13x14) rfl (by kernel_rfl) (fun _ _ _ h => h) (Or.inl ⟨by kernel_rfl, ?y13x14⟩) hHeld ?r13x14
          case y13x14 => (intro wS hSw; have s1 := hSw; go_simp; try with_reducible rfl)
          try simp only [Act.put, List.setIfInBounds_toArray, List.set_cons_zero, List.set_cons_succ]
          refine wpAnyG_one (i := 14) rfl (by kernel_rfl) (fun K hK => ?_)
          rw [if_pos (by kernel_rfl)]
          go_simp
          refine (HC.out _ R0.b).mono ?_
          rintro e w1 ⟨rfl, k1⟩
          have R1 := R0.below k1
          refine hK.out _ _ R1.s6 ?_
          clear hK K
          try simp only [Act.put, List.setIfInBounds_toArray, List.set_cons_zero, List.set_cons_succ]
          clear hHeld
          have hHeld : S6 g 2 1 1 1 2 1 w1 := R1.s6
          refine wpAnyG_take (i := 15) (v := .bool true) rfl (by kernel_rfl) (fun _ _ _ h => h) (Or.inl ⟨by kernel_rfl, ?y15x15⟩) hHeld ?r15x15
          case y15x15 => (intro wS hSw; (go_simp))
          try simp only [Act.put, List.setIfInBounds_toArray, List.set_cons_zero, List.set_cons_succ]
          refine wpAnyG_last (i := 16) rfl (by kernel_rfl) (by kernel_rfl) (fun K hK => ?_)
          go_simp
          refine hK.out _ _ ?_
          clear hK K
          try simp only [Act.put, List.setIfInBounds_toArray, List.set_cons_zero, List.set_cons_succ]
          refine wpAnyG_done (by kernel_rfl) ?_ _
          have HR1 : Hid (Rf B g cap w lA w1) := R1
          have q0 := R1.row.frozenAt 0
          have q1 := R1.row.frozenAt 1
          have q2 := R1.row.frozenAt 2
          have q3 := R1.row.frozenAt 3
          have q4 := R1.row.frozenAt 4
          have q5 := R1.row.frozenAt 5
          obtain ⟨c0, c1, c2, c3, c4, c5⟩ := R1.s6
          clear hHeld R0 R1 k1 HR
          go_wp2_with fail
          go_region
          go_wp2
          go_roundw
          case rel => exact .inr ⟨rfl, HR1.out.swap⟩
          case measure => simp [intOf]
        · go_wp2_with fail
          refine wp_region_G (fun _ => True) 16 (by kernel_rfl) trivial (fun hHeld => ?_)
          refine wpAnyG_take (i := 0) (v := ?v0x16) rfl (by kernel_rfl) (fun _ _ _ h => h) (Or.inl ⟨by rfl, ?y0x16⟩) hHeld ?r0x16
          case y0x16 => (intro wS hSw; obtain _ := hSw; go_simp; try with_reducible rfl)
          try simp only [Act.put, List.setIfInBounds_toArray, List.set_cons_zero, List.set_cons_succ]
          refine wpAnyG_take (i := 1) (v := ?v1x17) rfl (by kernel_rfl) (fun _ _ _ h => h) (Or.inl ⟨by rfl, ?y1x17⟩) hHeld ?r1x17
          case y1x17 => (intro wS hSw; obtain _ := hSw; go_simp; try with_reducible rfl)
          try simp only [Act.put, List.setIfInBounds_toArray, List.set_cons_zero, List.set_cons_succ]
          refine wpAnyG_take (i := 2) (v := .bool false) rfl (by kernel_rfl) (fun _ _ _ h => h) (Or.inl ⟨by kernel_rfl, ?y2x18⟩) hHeld ?r2x18
          case y2x18 => (intro wS hSw; (go_simp))
          try simp only [Act.put, List.setIfInBounds_toArray, List.set_cons_zero, List.set_cons_succ]
          refine wpAnyG_take (i := 3) (v := .bool false) rfl (by kernel_rfl) (fun _ _ _ h => h) (Or.inl ⟨by kernel_rfl, ?y3x19⟩) hHeld ?r3x19
          case y3x19 => (intro wS hSw; (go_simp))
          try simp only [Act.put, List.setIfInBounds_toArray, List.set_cons_zero, List.set_cons_succ]
          refine wpAnyG_take (i := 4) (v := undef) rfl (by kernel_rfl) (fun _ _ _ h => h) (Or.inr ⟨by kernel_rfl, rfl⟩) hHeld ?_
          try simp only [Act.put, List.setIfInBounds_toArray, List.set_cons_zero, List.set_cons_succ]
          refine wpAnyG_take (i := 5) (v := undef) rfl (by kernel_rfl) (fun _ _ _ h => h) (Or.inr ⟨by kernel_rfl, rfl⟩) hHeld ?_
          try simp only [Act.put, List.setIfInBounds_toArray, List.set_cons_zero, List.set_cons_succ]
          refine wpAnyG_take (i := 6) (v := undef) rfl (by kernel_rfl) (fun _ _ _ h => h) (Or.inr ⟨by kernel_rfl, rfl⟩) hHeld ?_
          try simp only [Act.put, List.setIfInBounds_toArray, List.set_cons_zero, List.set_cons_succ]
          refine wpAnyG_take (i := 7) (v := undef) rfl (by kernel_rfl) (fun _ _ _ h => h) (Or.inr ⟨by kernel_rfl, rfl⟩) hHeld ?_
          try simp only [Act.put, List.setIfInBounds_toArray, List.set_cons_zero, List.set_cons_succ]
          refine wpAnyG_take (i := 8) (v := undef) rfl (by kernel_rfl) (fun _ _ _ h => h) (Or.inr ⟨by kernel_rfl, rfl⟩) hHeld ?_
          try simp only [Act.put, List.setIfInBounds_toArray, List.set_cons_zero, List.set_cons_succ]
          refine wpAnyG_take (i := 9) (v := undef) rfl (by kernel_rfl) (fun _ _ _ h => h) (Or.inr ⟨by kernel_rfl, rfl⟩) hHeld ?_
          try simp only [Act.put, List.setIfInBounds_toArray, List.set_cons_zero, List.set_cons_succ]
          refine wpAnyG_take (i := 10) (v := undef) rfl (by kernel_rfl) (fun _ _ _ h => h) (Or.inr ⟨by kernel_rfl, rfl⟩) hHeld ?_
          try simp only [Act.put, List.setIfInBounds_toArray, List.set_cons_zero, List.set_cons_succ]
          refine wpAnyG_take (i := 11) (v := undef) rfl (by kernel_rfl) (fun _ _ _ h => h) (Or.inr ⟨by kernel_rfl, rfl⟩) hHeld ?_
          try simp only [Act.put, List.setIfInBounds_toArray, List.set_cons_zero, List.set_cons_succ]
          refine wpAnyG_take (i := 12) (v := undef) rfl (by kernel_rfl) (fun _ _ _ h => h) (Or.inr ⟨by kernel_rfl, rfl⟩) hHeld ?_
          try simp only [Act.put, List.setIfInBounds_toArray, List.set_cons_zero, List.set_cons_succ]
          refine wpAnyG_take (i := 13) (v := undef) rfl (by kernel_rfl) (fun _ _ _ h => h) (Or.inr ⟨by kernel_rfl, rfl⟩) hHeld ?_
          try simp only [Act.put, List.setIfInBounds_toArray, List.set_cons_zero, List.set_cons_succ]
          refine wpAnyG_take (i := 14) (v := undef) rfl (by kernel_rfl) (fun _ _ _ h => h) (Or.inr ⟨by kernel_rfl, rfl⟩) hHeld ?_
          try simp only [Act.put, List.setIfInBounds_toArray, List.set_cons_zero, List.set_cons_succ]
          refine wpAnyG_take (i := 15) (v := undef) rfl (by kernel_rfl) (fun _ _ _ h => h) (Or.inr ⟨by kernel_rfl, rfl⟩) hHeld ?_
          try simp only [Act.put, List.setIfInBounds_toArray, List.set_cons_zero, List.set_cons_succ]
          refine wpAnyG_last (i := 16) rfl (by kernel_rfl) (by kernel_rfl) (fun K hK => ?_)
          go_simp
          refine hK.out _ _ ?_
          clear hK K
          try simp only [Act.put, List.setIfInBounds_toArray, List.set_cons_zero, List.set_cons_succ]
          refine wpAnyG_done (by kernel_rfl) ?_ _
          have HR1 : Hid (Rf B g cap w lC wr.drew) := HR.out.drew
          clear hHeld HR
          go_wp2
          go_roundw
          case rel => exact .inr ⟨rfl, HR1.out⟩
          case measure => simp [intOf]
    · go_wp2
      go_end0
      exact ⟨⟨_, rfl⟩, HR.out.row, HR.out.b⟩

set_option maxHeartbeats 1000000 in
theorem pdqF_2 (k : Kd) (K : KdIs 0 k) (b B g cap : Nat) (lim : Int) (w : World) (hb : Kt b k w) (hbB : b < B) (hc : 2 ≤ cap) (h0 : w.ownsRow B 60 3 (.slice (some ⟨g, 0, none⟩) 2 cap) 2 lA) :
    Calls Tryz.prog 164 #[.slice (some ⟨g, 0, none⟩) 2 cap, .int .i64 0, .int .i64 2, .int .i64 lim, .func (.func 140) #[] #[.pointer (some ⟨b, 0, none⟩)]] w fun e w' => (∃ v, e = .returned v) ∧ w'.ownsRow B 60 3 (.slice (some ⟨g, 0, none⟩) 2 cap) 2 lC ∧ Below B w w' := by
  have HO : Hid (∀ W, W = w → Calls Tryz.prog 192 #[.slice (some ⟨g, 0, none⟩) 2 cap, .int .i64 0, .int .i64 2, .func (.func 140) #[] #[.pointer (some ⟨b, 0, none⟩)]] W fun e w' => (∃ v, e = .returned v) ∧ w'.ownsRow B 60 3 (.slice (some ⟨g, 0, none⟩) 2 cap) 2 lC ∧ Below B W w') := by
    rintro W rfl
    exact insertionF_2 k K b B g cap W hb hbB hc h0
  clear h0 hb K
  go_enter Tryz.func164, Tryz.ntmps164
  go_wp2
  go_loopw [1, 2, 3, 10, 11] (fun av bv lv x1 x2 wx => av = .int .i64 0 ∧ bv = .int .i64 2 ∧ lv = .int .i64 lim ∧ x1 = .bool true ∧ x2 = .bool true ∧ Hid (wx = w)) (fun _ _ _ _ _ _ => 0)
  case atStart => exact ⟨rfl, rfl, rfl, rfl, rfl, rfl⟩
  case round =>
    obtain ⟨rfl, rfl, rfl, rfl, rfl, HW⟩ := hrel
    go_wp2_with fail
    refine (HO.out wr HW.out).mono ?_
    rintro e w1 ⟨⟨v, rfl⟩, k1, k2⟩
    have K1 : Hid (w1.ownsRow B 60 3 (.slice (some ⟨g, 0, none⟩) 2 cap) 2 lC ∧ Below B w w1) := ⟨k1, HW.out ▸ k2⟩
    clear k1 k2 HW
    go_wp2
    exact bodyPost_ret (results_none rfl _ _ _) rfl ⟨⟨_, rfl⟩, K1.out⟩

theorem SortFunc_2 (k : Kd) (K : KdIs 0 k) (b B g cap : Nat) (w : World) (hb : Kt b k w) (hbB : b < B) (hc : 2 ≤ cap) (h0 : w.ownsRow B 60 3 (.slice (some ⟨g, 0, none⟩) 2 cap) 2 lA) :
    Calls Tryz.prog 139 #[.slice (some ⟨g, 0, none⟩) 2 cap, .func (.func 140) #[] #[.pointer (some ⟨b, 0, none⟩)]] w fun e w' => (∃ v, e = .returned v) ∧ w'.ownsRow B 60 3 (.slice (some ⟨g, 0, none⟩) 2 cap) 2 lC ∧ Below B w w' := by
  have HO : Hid (∀ lim, Calls Tryz.prog 164 #[.slice (some ⟨g, 0, none⟩) 2 cap, .int .i64 0, .int .i64 2, .int .i64 lim, .func (.func 140) #[] #[.pointer (some ⟨b, 0, none⟩)]] w fun e w' => (∃ v, e = .returned v) ∧ w'.ownsRow B 60 3 (.slice (some ⟨g, 0, none⟩) 2 cap) 2 lC ∧ Below B w w') := fun lim => pdqF_2 k K b B g cap lim w hb hbB hc h0
  clear h0 hb K
  go_enter Tryz.func139, Tryz.ntmps139
  go_wp2_with fail
  refine (Len_of 2 w (by omega) (by omega)).mono ?_
  rintro e w1 ⟨rfl, rfl⟩
  obtain ⟨lim, hlim⟩ : ∃ lim : Int, lim = (Lib.bitLen (Int.toNat 2) : Int) := ⟨_, rfl⟩
  rw [← hlim]
  clear hlim
  go_wp2_with fail
  refine (HO.out lim).mono ?_
  rintro e w2 ⟨⟨v, rfl⟩, k2, k3⟩
  have HR2 : Hid (w2.ownsRow B 60 3 (.slice (some ⟨g, 0, none⟩) 2 cap) 2 lC ∧ Below B w1 w2) := ⟨k2, k3⟩
  clear k2 k3
  go_wp2
  go_end0
  exact ⟨⟨_, rfl⟩, HR2.out⟩

end Go.Proofs.YtoionlnbodfhlacGreatDoor
