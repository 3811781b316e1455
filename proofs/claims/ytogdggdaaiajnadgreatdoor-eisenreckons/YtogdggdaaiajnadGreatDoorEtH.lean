/- Roots(-3, 3). -/
import Derived.Test.YtogdggdaaiajnadGreatDoorEtD
import Derived.Test.YtogdggdaaiajnadGreatDoorEtX
import Derived.Test.YtogdggdaaiajnadGreatDoorPrimeX
import Derived.RegionTactic
set_option linter.unusedSimpArgs false
set_option linter.unusedVariables false
set_option maxRecDepth 100000
namespace Go.Proofs.YtogdggdaaiajnadGreatDoor.R3
open Go.RowKit

theorem Sv.upto {b B : Nat} {c d : Int} {w w' : World} (h : Sv b c d w) (k : Below B w w') (hb : b < B) : Sv b c d w' :=
  ⟨(World.cell?_of_block (k.block b hb)).trans h.c0, (World.cell?_of_block (k.block b hb)).trans h.c1, (World.frozen?_of_block (k.block b hb)).trans h.f0, (World.frozen?_of_block (k.block b hb)).trans h.f1, Nat.lt_of_lt_of_le h.lt k.size⟩

set_option maxHeartbeats 2000000 in
theorem Roots_3 (w : World) : Calls Tryz.prog 82 #[.int .i64 (-3), .int .i64 3] w fun e w' => ∃ g cap, e = .returned (.tuple #[.slice (some ⟨g, 0, none⟩) 1 cap, .agg #[.int .i64 0, .int .i64 0]]) ∧
    w'.cell? ⟨g, 0, none⟩ = some (.int .i64 0) ∧ g < w'.heap.size ∧ Below w.heap.size w w' := by
  have HNF : Hid (nf 0 [-3, 3] = (0, 0)) := okB_nf (by decide)
  go_enter Tryz.func82, Tryz.ntmps82
  go_wp2_with fail
  refine (numbersFault_any [-3, 3] _ 0 _ _ (by simp) ?_ ?_).mono ?_
  · simp
  · exact two_cells (-3) 3 _ _ (by simp) (by simp)
  rw [HNF.out]
  rintro e w1 ⟨rfl, hb⟩
  have hz : w.heap.size < w1.heap.size := by have := hb.size; simp at this; omega
  have F1 : Hid (Sv w.heap.size 0 0 w1) := ((Sv.new 0 0 w).alloc _ _).below hb
  have HB1 : Hid (Below w.heap.size w w1) := Below.trans (Below.alloc (Below.alloc (Below.refl _ _) (Nat.le_refl _) _) (by simp) _) (hb.mono (by simp; omega))
  clear hb
  go_wp2_with fail
  refine (Factor_sm [3] 3 ⟨by decide, by decide⟩ (by decide) rfl (by decide) _).mono ?_
  rintro e w2 ⟨a, c, rfl, row, k2⟩
  replace row : w2.ownsRow (w1.alloc (.cells #[.int .i64 0, .int .i64 0] 28)).heap.size 101 2 (.slice a 1 c) 1 [.int .i64 3, .int .i64 1] := row
  rw [show (tly [3]).length = 1 from rfl]
  obtain ⟨gp, rfl⟩ : ∃ gp, a = some ⟨gp, 0, none⟩ := by
    rcases row.2 with ⟨_, h⟩ | ⟨gp, _, _, h, _⟩
    · omega
    · simp only [Value.slice.injEq] at h; exact ⟨gp, h.1⟩
  have hcp : 1 ≤ c := by
    rcases row.2 with ⟨h, h2⟩ | ⟨_, _, _, h, _, _, h4, _⟩
    · omega
    · cases h; exact h4
  have KB : Below w1.heap.size w1 w2 := ((Below.refl _ _).alloc (Nat.le_refl _) _).trans (k2.mono (by simp))
  have z2 := KB.size
  have HC2 : Hid (w2.cell? ⟨gp, 0, none⟩ = some (.int .i64 3) ∧ w2.cell? ⟨gp, 1, none⟩ = some (.int .i64 1)) :=
    ⟨row.cellAt 0 (by decide), row.cellAt 1 (by decide)⟩
  have hgp := (row.lt gp rfl).2
  have F2 : Hid (Sv w.heap.size 0 0 w2) := F1.out.below KB
  have HB2 : Hid (Below w.heap.size w w2) := HB1.out.trans (KB.mono (by omega))
  clear row k2 KB F1 HB1
  go_wp2_with fail
  have ka := (Below.refl w2.heap.size w2).alloc (Nat.le_refl _) (.cells #[.int .i64 0, .int .i64 0] 28)
  refine (familiesBy_3 gp c _ (by simp; omega) ((ka.cell (p := ⟨gp, 0, none⟩) hgp).trans HC2.out.1) ((ka.cell (p := ⟨gp, 1, none⟩) hgp).trans HC2.out.2) hcp).mono ?_
  rintro e w3 ⟨gf, g2, cf, rfl, row, hc2, k3⟩
  have K3 : Below w2.heap.size w2 w3 := ka.trans (k3.mono (by simp))
  have z3 := K3.size
  have hgf := (row.lt gf rfl).2
  have hcf : 1 ≤ cf := by
    rcases row.2 with ⟨h, h2⟩ | ⟨_, _, _, h, _, _, h4, _⟩
    · omega
    · cases h; exact h4
  have HCf : Hid (∀ j v, (fam1 g2 3)[j]? = some v → w3.cell? ⟨gf, j, none⟩ = some v) := by
    intro j v hv
    have hj : j < 3 := (List.getElem?_eq_some_iff.1 hv).1
    rw [row.cellAt j (by omega), hv]
  have C3 : Hid (Cl g2 [.int .i64 0] 3 w3) := hc2
  have F3 : Hid (Sv w.heap.size 0 0 w3) := F2.out.below K3
  have HB3 : Hid (Below w.heap.size w w3) := HB2.out.trans (K3.mono (by omega))
  clear row k3 ka hc2 HC2 F2 HB2 K3
  go_wp2_with fail
  refine (choices_3 gf g2 cf _ hgf HCf.out hcf).mono ?_
  rintro e w4 ⟨rfl, k4⟩
  have z4 := k4.size
  have HC4 : Hid (∀ j v, (fam1 g2 3)[j]? = some v → w4.cell? ⟨gf, j, none⟩ = some v) := fun j v hv => (k4.cell (p := ⟨gf, j, none⟩) hgf).trans (HCf.out j v hv)
  have C4 : Hid (Cl g2 [.int .i64 0] 3 w4) := C3.out.below k4
  have F4 : Hid (Sv w.heap.size 0 0 w4) := F3.out.below k4
  have HB4 : Hid (Below w.heap.size w w4) := HB3.out.trans (k4.mono (by omega))
  clear k4 HCf C3 F3 HB3
  go_wp2_with fail
  refine (joined_3 gf g2 cf w4 hcf (by omega) HC4.out C4.out).mono ?_
  rintro e w5 ⟨g, cap, rfl, row, k5⟩
  have z5 := k5.size
  have hcap : 1 ≤ cap := by
    rcases row.2 with ⟨h, h2⟩ | ⟨_, _, _, h, _, _, h4, _⟩
    · omega
    · cases h; exact h4
  have R5 : Hid (w5.ownsRow w4.heap.size 3 1 (.slice (some ⟨g, 0, none⟩) 1 cap) 1 (ints [0])) := row
  have F5 : Hid (Sv w.heap.size 0 0 w5) := F4.out.below k5
  have HB5 : Hid (Below w.heap.size w w5) := HB4.out.trans (k5.mono (by omega))
  clear row k5 HC4 C4 F4 HB4
  go_wp2_with fail
  refine (Sort_ord (some ⟨g, 0, none⟩) 1 cap [0] w5 (by decide) hcap ⟨fun g' j e hj => by
      simp only [Option.some.injEq, Addr.mk.injEq] at e
      obtain ⟨rfl, _⟩ := e
      obtain rfl : j = 0 := by omega
      exact ⟨(R5.out.lt g rfl).2, R5.out.cellAt 0 (by decide)⟩, fun _ => ⟨g, rfl⟩, fun j hj => by omega⟩).mono ?_
  rintro e w6 ⟨⟨v, rfl⟩, k6⟩
  have F6 := F5.out.below k6
  have HR6 : Hid (w6.ownsRow w4.heap.size 3 1 (.slice (some ⟨g, 0, none⟩) 1 cap) 1 (ints [0])) := row_kept R5.out (fun g' e => k6.block g' (R5.out.lt g' e).2)
  have HB6 : Hid (Below w.heap.size w w6) := HB5.out.trans (k6.mono (by omega))
  have q0 := F6.c0
  have q1 := F6.c1
  have q2 := F6.f0
  have q3 := F6.f1
  have q4 := F6.lt
  clear k6 F6 F5 HB5 R5
  go_wp2
  refine bodyPost_ret (v := .tuple #[.slice (some ⟨g, 0, none⟩) 1 cap, .agg #[.int .i64 0, .int .i64 0]]) (by simp [results, Tryz.results82, go_sem, q0, q1, q4]) rfl ?_
  have h5 := ownsRow_setCell_below (ownsRow_setCell_below HR6.out (a := ⟨w.heap.size, 0, none⟩) (by show w.heap.size < _; omega) (.int .i64 0)) (a := ⟨w.heap.size, 1, none⟩) (by show w.heap.size < _; omega) (.int .i64 0)
  exact ⟨g, cap, rfl, h5.cellAt 0 (by decide), (h5.lt g rfl).2, (HB6.out.setCell (by simp) _).setCell (by simp) _⟩

end Go.Proofs.YtogdggdaaiajnadGreatDoor.R3
