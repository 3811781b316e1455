/- slices.Sort of the example's four roots. -/
import Derived.Test.YtoionlnbodfhlacGreatDoorRsG
import Derived.RegionTactic
import Derived.BigRegion
set_option linter.unusedSimpArgs false
set_option linter.unusedVariables false
set_option maxRecDepth 100000
namespace Go.Proofs.YtoionlnbodfhlacGreatDoor
open Go.RowKit

/-- The four numbers l lie in the row. -/
structure R4 (B g cap : Nat) (w : World) (l : List Int) (W : World) : Prop where
  row : W.ownsRow B 3 1 (.slice (some ⟨g, 0, none⟩) 4 cap) 4 (ints l)
  b : Below B w W
theorem R4.drewN {B g cap n : Nat} {w : World} {l : List Int} {W : World} (h : R4 B g cap w l W) : R4 B g cap w l (W.drewN n) := ⟨h.row, below_drewN' h.b⟩
theorem R4.swap {B g cap : Nat} {w : World} {l : List Int} {W : World} (h : R4 B g cap w l W) (i k : Nat) (x y : Int) :
    R4 B g cap w ((l.set i x).set k y) ((W.setCell ⟨g, i, none⟩ (.int .i64 x)).setCell ⟨g, k, none⟩ (.int .i64 y)).drew := by
  have hg := (h.row.lt g rfl).1
  refine ⟨?_, ((h.b.setCell hg _).setCell hg _).drew⟩
  have h1 := ((h.row.stored i (.int .i64 x)).1.stored k (.int .i64 y)).1
  rw [show ints ((l.set i x).set k y) = ((ints l).set i (.int .i64 x)).set k (.int .i64 y) by simp [ints, List.map_set]]
  exact h1

set_option maxHeartbeats 4000000 in
theorem insertion_4 (B g cap : Nat) (w : World) (hc : 4 ≤ cap) (h0 : w.ownsRow B 3 1 (.slice (some ⟨g, 0, none⟩) 4 cap) 4 (ints [13, 7, 8, 2])) :
    Calls Tryz.prog 121 #[.slice (some ⟨g, 0, none⟩) 4 cap, .int .i64 0, .int .i64 4] w fun e w' => (∃ v, e = .returned v) ∧ R4 B g cap w [2, 7, 8, 13] w' := by
  have HR : Hid (R4 B g cap w [13, 7, 8, 2] w) := ⟨h0, Below.refl _ _⟩
  clear h0
  go_enter Tryz.func121, Tryz.ntmps121
  go_wp2
  go_loopw [6] (fun iv wx => (iv = .int .i64 1 ∧ Hid (R4 B g cap w [13, 7, 8, 2] wx)) ∨ (iv = .int .i64 2 ∧ Hid (R4 B g cap w [7, 13, 8, 2] wx)) ∨ (iv = .int .i64 3 ∧ Hid (R4 B g cap w [7, 8, 13, 2] wx)) ∨ (iv = .int .i64 4 ∧ Hid (R4 B g cap w [2, 7, 8, 13] wx))) (fun iv _ => 4 - (intOf iv).toNat)
  case atStart => exact .inl ⟨rfl, HR.out⟩
  case round =>
    clear HR
    rcases hrel with ⟨rfl, HR⟩ | ⟨rfl, HR⟩ | ⟨rfl, HR⟩ | ⟨rfl, HR⟩
    · go_wp2
      go_loopw [7] (fun jv wx => (jv = .int .i64 1 ∧ Hid (R4 B g cap w [13, 7, 8, 2] wx)) ∨ (jv = .int .i64 0 ∧ Hid (R4 B g cap w [7, 13, 8, 2] wx))) (fun jv _ => (intOf jv).toNat)
      case atStart => exact .inl ⟨rfl, HR.out⟩
      case round =>
        clear HR
        rcases hrel with ⟨rfl, HR⟩ | ⟨rfl, HR⟩
        · have c1 := HR.out.row.cellAt 1 (by decide)
          have c0 := HR.out.row.cellAt 0 (by decide)
          simp [ints] at c1 c0
          go_wp2
          go_quiet ((go_at_call 127; exact Calls.quiet_of (Less_of 7 13 _)))
          go_wp2_with fail
          obtain ⟨wq, hwq⟩ : ∃ wq, wq = wr.drewN nq := ⟨_, rfl⟩
          have HQ : Hid (R4 B g cap w [13, 7, 8, 2] wq) := by rw [hwq]; exact HR.out.drewN
          rw [← hwq]
          clear hwq HR c0 c1
          have c1 := HQ.out.row.cellAt 1 (by decide)
          have c0 := HQ.out.row.cellAt 0 (by decide)
          have q1 := HQ.out.row.frozenAt 1
          have q0 := HQ.out.row.frozenAt 0
          simp [ints] at c1 c0
          go_region
          go_wp2
          go_roundw
          case rel => exact .inr (⟨rfl, HQ.out.swap 1 0 13 7⟩)
          case measure => simp [intOf]
        · go_wp2
          go_quiet (fail)
          go_wp2
          go_roundw
          case rel => exact .inr (.inl ⟨rfl, HR.out.drewN⟩)
          case measure => simp [intOf]
    · go_wp2
      go_loopw [7] (fun jv wx => (jv = .int .i64 2 ∧ Hid (R4 B g cap w [7, 13, 8, 2] wx)) ∨ (jv = .int .i64 1 ∧ Hid (R4 B g cap w [7, 8, 13, 2] wx))) (fun jv _ => (intOf jv).toNat)
      case atStart => exact .inl ⟨rfl, HR.out⟩
      case round =>
        clear HR
        rcases hrel with ⟨rfl, HR⟩ | ⟨rfl, HR⟩
        · have c1 := HR.out.row.cellAt 2 (by decide)
          have c0 := HR.out.row.cellAt 1 (by decide)
          simp [ints] at c1 c0
          go_wp2
          go_quiet ((go_at_call 127; exact Calls.quiet_of (Less_of 8 13 _)))
          go_wp2_with fail
          obtain ⟨wq, hwq⟩ : ∃ wq, wq = wr.drewN nq := ⟨_, rfl⟩
          have HQ : Hid (R4 B g cap w [7, 13, 8, 2] wq) := by rw [hwq]; exact HR.out.drewN
          rw [← hwq]
          clear hwq HR c0 c1
          have c1 := HQ.out.row.cellAt 2 (by decide)
          have c0 := HQ.out.row.cellAt 1 (by decide)
          have q1 := HQ.out.row.frozenAt 2
          have q0 := HQ.out.row.frozenAt 1
          simp [ints] at c1 c0
          go_region
          go_wp2
          go_roundw
          case rel => exact .inr (⟨rfl, HQ.out.swap 2 1 13 8⟩)
          case measure => simp [intOf]
        · have c1 := HR.out.row.cellAt 1 (by decide)
          have c0 := HR.out.row.cellAt 0 (by decide)
          simp [ints] at c1 c0
          go_wp2
          go_quiet ((go_at_call 127; exact Calls.quiet_of (Less_of 8 7 _)))
          go_wp2
          go_roundw
          case rel => exact .inr (.inr (.inl ⟨rfl, HR.out.drewN⟩))
          case measure => simp [intOf]
    · go_wp2
      go_loopw [7] (fun jv wx => (jv = .int .i64 3 ∧ Hid (R4 B g cap w [7, 8, 13, 2] wx)) ∨ (jv = .int .i64 2 ∧ Hid (R4 B g cap w [7, 8, 2, 13] wx)) ∨ (jv = .int .i64 1 ∧ Hid (R4 B g cap w [7, 2, 8, 13] wx)) ∨ (jv = .int .i64 0 ∧ Hid (R4 B g cap w [2, 7, 8, 13] wx))) (fun jv _ => (intOf jv).toNat)
      case atStart => exact .inl ⟨rfl, HR.out⟩
      case round =>
        clear HR
        rcases hrel with ⟨rfl, HR⟩ | ⟨rfl, HR⟩ | ⟨rfl, HR⟩ | ⟨rfl, HR⟩
        · have c1 := HR.out.row.cellAt 3 (by decide)
          have c0 := HR.out.row.cellAt 2 (by decide)
          simp [ints] at c1 c0
          go_wp2
          go_quiet ((go_at_call 127; exact Calls.quiet_of (Less_of 2 13 _)))
          go_wp2_with fail
          obtain ⟨wq, hwq⟩ : ∃ wq, wq = wr.drewN nq := ⟨_, rfl⟩
          have HQ : Hid (R4 B g cap w [7, 8, 13, 2] wq) := by rw [hwq]; exact HR.out.drewN
          rw [← hwq]
          clear hwq HR c0 c1
          have c1 := HQ.out.row.cellAt 3 (by decide)
          have c0 := HQ.out.row.cellAt 2 (by decide)
          have q1 := HQ.out.row.frozenAt 3
          have q0 := HQ.out.row.frozenAt 2
          simp [ints] at c1 c0
          go_region
          go_wp2
          go_roundw
          case rel => exact .inr (.inl ⟨rfl, HQ.out.swap 3 2 13 2⟩)
          case measure => simp [intOf]
        · have c1 := HR.out.row.cellAt 2 (by decide)
          have c0 := HR.out.row.cellAt 1 (by decide)
          simp [ints] at c1 c0
          go_wp2
          go_quiet ((go_at_call 127; exact Calls.quiet_of (Less_of 2 8 _)))
          go_wp2_with fail
          obtain ⟨wq, hwq⟩ : ∃ wq, wq = wr.drewN nq := ⟨_, rfl⟩
          have HQ : Hid (R4 B g cap w [7, 8, 2, 13] wq) := by rw [hwq]; exact HR.out.drewN
          rw [← hwq]
          clear hwq HR c0 c1
          have c1 := HQ.out.row.cellAt 2 (by decide)
          have c0 := HQ.out.row.cellAt 1 (by decide)
          have q1 := HQ.out.row.frozenAt 2
          have q0 := HQ.out.row.frozenAt 1
          simp [ints] at c1 c0
          go_region
          go_wp2
          go_roundw
          case rel => exact .inr (.inr (.inl ⟨rfl, HQ.out.swap 2 1 8 2⟩))
          case measure => simp [intOf]
        · have c1 := HR.out.row.cellAt 1 (by decide)
          have c0 := HR.out.row.cellAt 0 (by decide)
          simp [ints] at c1 c0
          go_wp2
          go_quiet ((go_at_call 127; exact Calls.quiet_of (Less_of 2 7 _)))
          go_wp2_with fail
          obtain ⟨wq, hwq⟩ : ∃ wq, wq = wr.drewN nq := ⟨_, rfl⟩
          have HQ : Hid (R4 B g cap w [7, 2, 8, 13] wq) := by rw [hwq]; exact HR.out.drewN
          rw [← hwq]
          clear hwq HR c0 c1
          have c1 := HQ.out.row.cellAt 1 (by decide)
          have c0 := HQ.out.row.cellAt 0 (by decide)
          have q1 := HQ.out.row.frozenAt 1
          have q0 := HQ.out.row.frozenAt 0
          simp [ints] at c1 c0
          go_region
          go_wp2
          go_roundw
          case rel => exact .inr (.inr (.inr (⟨rfl, HQ.out.swap 1 0 7 2⟩)))
          case measure => simp [intOf]
        · go_wp2
          go_quiet (fail)
          go_wp2
          go_roundw
          case rel => exact .inr (.inr (.inr (⟨rfl, HR.out.drewN⟩)))
          case measure => simp [intOf]
    · go_wp2
      go_end0
      exact ⟨⟨_, rfl⟩, HR.out⟩

end Go.Proofs.YtoionlnbodfhlacGreatDoor
