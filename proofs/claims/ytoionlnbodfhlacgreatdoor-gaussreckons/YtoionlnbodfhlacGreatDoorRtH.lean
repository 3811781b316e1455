/- slices.Sort of the two roots 3 and 2, and Roots(-1, 5). -/
import Derived.Test.YtoionlnbodfhlacGreatDoorRtD
import Derived.Test.YtoionlnbodfhlacGreatDoorRtG
import Derived.Test.YtoionlnbodfhlacGreatDoorRsH
import Derived.Test.YtoionlnbodfhlacGreatDoorPrimeX
import Derived.RegionTactic
import Derived.BigRegion
set_option linter.unusedSimpArgs false
set_option linter.unusedVariables false
set_option maxRecDepth 100000
namespace Go.Proofs.YtoionlnbodfhlacGreatDoor.R5
open Go.RowKit

/-- The two numbers l lie in the row. -/
structure R2 (B g cap : Nat) (w : World) (l : List Int) (W : World) : Prop where
  row : W.ownsRow B 3 1 (.slice (some ⟨g, 0, none⟩) 2 cap) 2 (ints l)
  b : Below B w W
theorem R2.drewN {B g cap n : Nat} {w : World} {l : List Int} {W : World} (h : R2 B g cap w l W) : R2 B g cap w l (W.drewN n) := ⟨h.row, below_drewN' h.b⟩
theorem R2.swap {B g cap : Nat} {w : World} {l : List Int} {W : World} (h : R2 B g cap w l W) (i k : Nat) (x y : Int) :
    R2 B g cap w ((l.set i x).set k y) ((W.setCell ⟨g, i, none⟩ (.int .i64 x)).setCell ⟨g, k, none⟩ (.int .i64 y)).drew := by
  have hg := (h.row.lt g rfl).1
  refine ⟨?_, ((h.b.setCell hg _).setCell hg _).drew⟩
  have h1 := ((h.row.stored i (.int .i64 x)).1.stored k (.int .i64 y)).1
  rw [show ints ((l.set i x).set k y) = ((ints l).set i (.int .i64 x)).set k (.int .i64 y) by simp [ints, List.map_set]]
  exact h1

set_option maxHeartbeats 4000000 in
theorem insertion_2 (B g cap : Nat) (w : World) (hc : 2 ≤ cap) (h0 : w.ownsRow B 3 1 (.slice (some ⟨g, 0, none⟩) 2 cap) 2 (ints [3, 2])) :
    Calls Tryz.prog 121 #[.slice (some ⟨g, 0, none⟩) 2 cap, .int .i64 0, .int .i64 2] w fun e w' => (∃ v, e = .returned v) ∧ R2 B g cap w [2, 3] w' := by
  have HR : Hid (R2 B g cap w [3, 2] w) := ⟨h0, Below.refl _ _⟩
  clear h0
  go_enter Tryz.func121, Tryz.ntmps121
  go_wp2
  go_loopw [6] (fun iv wx => (iv = .int .i64 1 ∧ Hid (R2 B g cap w [3, 2] wx)) ∨ (iv = .int .i64 2 ∧ Hid (R2 B g cap w [2, 3] wx))) (fun iv _ => 2 - (intOf iv).toNat)
  case atStart => exact .inl ⟨rfl, HR.out⟩
  case round =>
    clear HR
    rcases hrel with ⟨rfl, HR⟩ | ⟨rfl, HR⟩
    · go_wp2
      go_loopw [7] (fun jv wx => (jv = .int .i64 1 ∧ Hid (R2 B g cap w [3, 2] wx)) ∨ (jv = .int .i64 0 ∧ Hid (R2 B g cap w [2, 3] wx))) (fun jv _ => (intOf jv).toNat)
      case atStart => exact .inl ⟨rfl, HR.out⟩
      case round =>
        clear HR
        rcases hrel with ⟨rfl, HR⟩ | ⟨rfl, HR⟩
        · have c1 := HR.out.row.cellAt 1 (by decide)
          have c0 := HR.out.row.cellAt 0 (by decide)
          simp [ints] at c1 c0
          go_wp2
          go_quiet ((go_at_call 127; exact Calls.quiet_of (Less_of 2 3 _)))
          go_wp2_with fail
          obtain ⟨wq, hwq⟩ : ∃ wq, wq = wr.drewN nq := ⟨_, rfl⟩
          have HQ : Hid (R2 B g cap w [3, 2] wq) := by rw [hwq]; exact HR.out.drewN
          rw [← hwq]
          clear hwq HR c0 c1
          have c1 := HQ.out.row.cellAt 1 (by decide)
          have c0 := HQ.out.row.cellAt 0 (by decide)
          have q1 := HQ.out.row.frozenAt 1
          have q0 := HQ.out.row.frozenAt 0
          simp [ints] at c1 c0
          go_region
          go_wp2
          go_roundw
          case rel => exact .inr (⟨rfl, HQ.out.swap 1 0 3 2⟩)
          case measure => simp [intOf]
        · go_wp2
          go_quiet (fail)
          go_wp2
          go_roundw
          case rel => exact .inr ⟨rfl, HR.out.drewN⟩
          case measure => simp [intOf]
    · go_wp2
      go_end0
      exact ⟨⟨_, rfl⟩, HR.out⟩

set_option maxHeartbeats 1000000 in
theorem pdq_2 (B g cap : Nat) (lim : Int) (w : World) (hc : 2 ≤ cap) (h0 : w.ownsRow B 3 1 (.slice (some ⟨g, 0, none⟩) 2 cap) 2 (ints [3, 2])) :
    Calls Tryz.prog 81 #[.slice (some ⟨g, 0, none⟩) 2 cap, .int .i64 0, .int .i64 2, .int .i64 lim] w fun e w' => (∃ v, e = .returned v) ∧ R2 B g cap w [2, 3] w' := by
  have HO : Hid (w.ownsRow B 3 1 (.slice (some ⟨g, 0, none⟩) 2 cap) 2 (ints [3, 2])) := h0
  clear h0
  go_enter Tryz.func81, Tryz.ntmps81
  go_wp2
  go_loopw [1, 2, 3, 8, 9] (fun av bv lv x1 x2 wx => av = .int .i64 0 ∧ bv = .int .i64 2 ∧ lv = .int .i64 lim ∧ x1 = .bool true ∧ x2 = .bool true ∧ Hid (wx = w)) (fun _ _ _ _ _ _ => 0)
  case atStart => exact ⟨rfl, rfl, rfl, rfl, rfl, rfl⟩
  case round =>
    obtain ⟨rfl, rfl, rfl, rfl, rfl, HW⟩ := hrel
    have hw := HW.out
    subst hw
    clear HW
    go_wp2_with fail
    refine (insertion_2 B g cap wr hc HO.out).mono ?_
    rintro e w1 ⟨⟨v, rfl⟩, k1⟩
    have K1 : Hid (R2 B g cap wr [2, 3] w1) := k1
    clear k1
    go_wp2
    exact bodyPost_ret (results_none rfl _ _ _) rfl ⟨⟨_, rfl⟩, K1.out⟩

theorem Sort_2 (B g cap : Nat) (w : World) (hc : 2 ≤ cap) (h0 : w.ownsRow B 3 1 (.slice (some ⟨g, 0, none⟩) 2 cap) 2 (ints [3, 2])) :
    Calls Tryz.prog 48 #[.slice (some ⟨g, 0, none⟩) 2 cap] w fun e w' => (∃ v, e = .returned v) ∧ R2 B g cap w [2, 3] w' := by
  have HO : Hid (w.ownsRow B 3 1 (.slice (some ⟨g, 0, none⟩) 2 cap) 2 (ints [3, 2])) := h0
  clear h0
  go_enter Tryz.func48, Tryz.ntmps48
  go_wp2_with fail
  refine (Len_of 2 w (by omega) (by omega)).mono ?_
  rintro e w1 ⟨rfl, rfl⟩
  obtain ⟨lim, hlim⟩ : ∃ lim : Int, lim = (Lib.bitLen (Int.toNat 2) : Int) := ⟨_, rfl⟩
  rw [← hlim]
  clear hlim
  go_wp2_with fail
  refine (pdq_2 B g cap lim w1 hc HO.out).mono ?_
  rintro e w2 ⟨⟨v, rfl⟩, k2⟩
  have K2 : Hid (R2 B g cap w1 [2, 3] w2) := k2
  clear k2
  go_wp2
  go_end0
  exact ⟨⟨_, rfl⟩, K2.out⟩

theorem Sv.upto {b B : Nat} {c d : Int} {w w' : World} (h : Sv b c d w) (k : Below B w w') (hb : b < B) : Sv b c d w' :=
  ⟨(World.cell?_of_block (k.block b hb)).trans h.c0, (World.cell?_of_block (k.block b hb)).trans h.c1, (World.frozen?_of_block (k.block b hb)).trans h.f0, (World.frozen?_of_block (k.block b hb)).trans h.f1, Nat.lt_of_lt_of_le h.lt k.size⟩

set_option maxHeartbeats 2000000 in
theorem Roots_5 (w : World) (hT : Tb w) : Calls Tryz.prog 14 #[.int .i64 (-1), .int .i64 5] w fun e w' => ∃ g cap, e = .returned (.tuple #[.slice (some ⟨g, 0, none⟩) 2 cap, .agg #[.int .i64 0, .int .i64 0]]) ∧
    w'.cell? ⟨g, 0, none⟩ = some (.int .i64 2) ∧ g < w'.heap.size ∧ Below w.heap.size w w' := by
  have HT : Hid (Tb w) := hT
  have HNF : Hid (nf 0 [-1, 5] = (0, 0)) := okB_nf (by decide)
  clear hT
  go_enter Tryz.func14, Tryz.ntmps14
  go_wp2_with fail
  refine (numbersFault_any [-1, 5] _ 0 _ _ (by simp) ?_ ?_).mono ?_
  · simp
  · exact two_cells (-1) 5 _ _ (by simp) (by simp)
  rw [HNF.out]
  rintro e w1 ⟨rfl, hb⟩
  have hz : w.heap.size < w1.heap.size := by have := hb.size; simp at this; omega
  have F1 : Hid (Sv w.heap.size 0 0 w1) := ((Sv.new 0 0 w).alloc _ _).below hb
  have HT1 : Hid (Tb w1) := ((HT.out.alloc _).alloc _).below hb
  have HB1 : Hid (Below w.heap.size w w1) := Below.trans (Below.alloc (Below.alloc (Below.refl _ _) (Nat.le_refl _) _) (by simp) _) (hb.mono (by simp; omega))
  clear hb HT
  go_wp2_with fail
  refine (Factor_sm [5] 5 ⟨by decide, by decide⟩ (by decide) rfl (by decide) _).mono ?_
  rintro e w2 ⟨a, c, rfl, row, k2⟩
  replace row : w2.ownsRow (w1.alloc (.cells #[.int .i64 0, .int .i64 0] 23)).heap.size 39 2 (.slice a 1 c) 1 [.int .i64 5, .int .i64 1] := row
  rw [show (tly [5]).length = 1 from rfl]
  obtain ⟨gp, rfl⟩ : ∃ gp, a = some ⟨gp, 0, none⟩ := by
    rcases row.2 with ⟨_, h⟩ | ⟨gp, _, _, h, _⟩
    · omega
    · simp only [Value.slice.injEq] at h; exact ⟨gp, h.1⟩
  have hcp : 1 ≤ c := by
    rcases row.2 with ⟨h, h2⟩ | ⟨_, _, _, h, _, _, h4, _⟩
    · omega
    · cases h; exact h4
  have KB : Below w1.heap.size w1 w2 := ((Below.refl _ _).alloc (Nat.le_refl _) _).trans (k2.mono (by simp))
  have z2 := KB.size
  have HC2 : Hid (w2.cell? ⟨gp, 0, none⟩ = some (.int .i64 5) ∧ w2.cell? ⟨gp, 1, none⟩ = some (.int .i64 1)) :=
    ⟨row.cellAt 0 (by decide), row.cellAt 1 (by decide)⟩
  have hgp := (row.lt gp rfl).2
  have F2 : Hid (Sv w.heap.size 0 0 w2) := F1.out.below KB
  have HT2 : Hid (Tb w2) := HT1.out.below KB
  have HB2 : Hid (Below w.heap.size w w2) := HB1.out.trans (KB.mono (by omega))
  clear row k2 KB F1 HT1 HB1
  go_wp2_with fail
  have ka := (Below.refl w2.heap.size w2).alloc (Nat.le_refl _) (.cells #[.int .i64 0, .int .i64 0] 23)
  refine (familiesBy_5 gp c _ (by simp; omega) ((ka.cell (p := ⟨gp, 0, none⟩) hgp).trans HC2.out.1) ((ka.cell (p := ⟨gp, 1, none⟩) hgp).trans HC2.out.2) hcp (HT2.out.alloc _)).mono ?_
  rintro e w3 ⟨gf, g2, cf, rfl, row, hc2, k3⟩
  have K3 : Below w2.heap.size w2 w3 := ka.trans (k3.mono (by simp))
  have z3 := K3.size
  have hgf := (row.lt gf rfl).2
  have hcf : 1 ≤ cf := by
    rcases row.2 with ⟨h, h2⟩ | ⟨_, _, _, h, _, _, h4, _⟩
    · omega
    · cases h; exact h4
  have HCf : Hid (∀ j v, (fam g2 5)[j]? = some v → w3.cell? ⟨gf, j, none⟩ = some v) := by
    intro j v hv
    have hj : j < 3 := (List.getElem?_eq_some_iff.1 hv).1
    rw [row.cellAt j (by omega), hv]
  have C3 : Hid (Cl g2 [.int .i64 3, .int .i64 2] 3 w3) := hc2
  have F3 : Hid (Sv w.heap.size 0 0 w3) := F2.out.below K3
  have HB3 : Hid (Below w.heap.size w w3) := HB2.out.trans (K3.mono (by omega))
  clear row k3 ka hc2 HC2 F2 HT2 HB2 K3
  go_wp2_with fail
  refine (choices_5 gf g2 cf _ hgf HCf.out hcf).mono ?_
  rintro e w4 ⟨rfl, k4⟩
  have z4 := k4.size
  have HC4 : Hid (∀ j v, (fam g2 5)[j]? = some v → w4.cell? ⟨gf, j, none⟩ = some v) := fun j v hv => (k4.cell (p := ⟨gf, j, none⟩) hgf).trans (HCf.out j v hv)
  have C4 : Hid (Cl g2 [.int .i64 3, .int .i64 2] 3 w4) := C3.out.below k4
  have F4 : Hid (Sv w.heap.size 0 0 w4) := F3.out.below k4
  have HB4 : Hid (Below w.heap.size w w4) := HB3.out.trans (k4.mono (by omega))
  clear k4 HCf C3 F3 HB3
  go_wp2_with fail
  refine (joined_5 gf g2 cf w4 hcf (by omega) HC4.out C4.out).mono ?_
  rintro e w5 ⟨g, cap, rfl, row, k5⟩
  have z5 := k5.size
  have hcap : 2 ≤ cap := by
    rcases row.2 with ⟨h, h2⟩ | ⟨_, _, _, h, _, _, h4, _⟩
    · omega
    · cases h; exact h4
  have R5 : Hid (w5.ownsRow w4.heap.size 3 1 (.slice (some ⟨g, 0, none⟩) 2 cap) 2 (ints [3, 2])) := row
  have F5 : Hid (Sv w.heap.size 0 0 w5) := F4.out.below k5
  have HB5 : Hid (Below w.heap.size w w5) := HB4.out.trans (k5.mono (by omega))
  clear row k5 HC4 C4 F4 HB4
  go_wp2_with fail
  refine (Sort_2 w4.heap.size g cap w5 hcap R5.out).mono ?_
  rintro e w6 ⟨⟨v, rfl⟩, k6⟩
  have F6 := Sv.upto F5.out k6.b (by omega)
  have HR6 : Hid (w6.ownsRow w4.heap.size 3 1 (.slice (some ⟨g, 0, none⟩) 2 cap) 2 (ints [2, 3])) := k6.row
  have HB6 : Hid (Below w.heap.size w w6) := HB5.out.trans (k6.b.mono (by omega))
  have q0 := F6.c0
  have q1 := F6.c1
  have q2 := F6.f0
  have q3 := F6.f1
  have q4 := F6.lt
  clear k6 F6 F5 HB5 R5
  go_wp2
  refine bodyPost_ret (v := .tuple #[.slice (some ⟨g, 0, none⟩) 2 cap, .agg #[.int .i64 0, .int .i64 0]]) (by simp [results, Tryz.results14, go_sem, q0, q1, q4]) rfl ?_
  have h5 := ownsRow_setCell_below (ownsRow_setCell_below HR6.out (a := ⟨w.heap.size, 0, none⟩) (by show w.heap.size < _; omega) (.int .i64 0)) (a := ⟨w.heap.size, 1, none⟩) (by show w.heap.size < _; omega) (.int .i64 0)
  exact ⟨g, cap, rfl, h5.cellAt 0 (by decide), (h5.lt g rfl).2, (HB6.out.setCell (by simp) _).setCell (by simp) _⟩

end Go.Proofs.YtoionlnbodfhlacGreatDoor.R5
