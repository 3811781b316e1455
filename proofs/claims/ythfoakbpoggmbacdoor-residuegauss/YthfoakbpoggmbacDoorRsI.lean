/- Roots(4, 15) and the document's examples of layer 5. -/
import Derived.Test.YthfoakbpoggmbacDoorRsH
import Derived.Test.YthfoakbpoggmbacDoorInts
import Derived.Test.YthfoakbpoggmbacDoorResidueGaussWalk
set_option linter.unusedSimpArgs false
set_option linter.unusedVariables false
set_option maxRecDepth 100000
namespace Go.Proofs.YthfoakbpoggmbacDoor
open Go.RowKit

set_option maxHeartbeats 1000000 in
theorem pdq_4 (B g cap : Nat) (lim : Int) (w : World) (hc : 4 ≤ cap) (h0 : w.ownsRow B 3 1 (.slice (some ⟨g, 0, none⟩) 4 cap) 4 (ints [13, 7, 8, 2])) :
    Calls Tryd.prog 29 #[.slice (some ⟨g, 0, none⟩) 4 cap, .int .i64 0, .int .i64 4, .int .i64 lim] w fun e w' => (∃ v, e = .returned v) ∧ R4 B g cap w [2, 7, 8, 13] w' := by
  have HO : Hid (w.ownsRow B 3 1 (.slice (some ⟨g, 0, none⟩) 4 cap) 4 (ints [13, 7, 8, 2])) := h0
  clear h0
  go_enter Tryd.func29, Tryd.ntmps29
  go_wp2
  go_loopw [1, 2, 3, 8, 9] (fun av bv lv x1 x2 wx => av = .int .i64 0 ∧ bv = .int .i64 4 ∧ lv = .int .i64 lim ∧ x1 = .bool true ∧ x2 = .bool true ∧ Hid (wx = w)) (fun _ _ _ _ _ _ => 0)
  case atStart => exact ⟨rfl, rfl, rfl, rfl, rfl, rfl⟩
  case round =>
    obtain ⟨rfl, rfl, rfl, rfl, rfl, HW⟩ := hrel
    have hw := HW.out
    subst hw
    clear HW
    go_wp2_with fail
    refine (insertion_4 B g cap wr hc HO.out).mono ?_
    rintro e w1 ⟨⟨v, rfl⟩, k1⟩
    have K1 : Hid (R4 B g cap wr [2, 7, 8, 13] w1) := k1
    clear k1
    go_wp2
    exact bodyPost_ret (results_none rfl _ _ _) rfl ⟨⟨_, rfl⟩, K1.out⟩

theorem Sort_4 (B g cap : Nat) (w : World) (hc : 4 ≤ cap) (h0 : w.ownsRow B 3 1 (.slice (some ⟨g, 0, none⟩) 4 cap) 4 (ints [13, 7, 8, 2])) :
    Calls Tryd.prog 16 #[.slice (some ⟨g, 0, none⟩) 4 cap] w fun e w' => (∃ v, e = .returned v) ∧ R4 B g cap w [2, 7, 8, 13] w' := by
  have HO : Hid (w.ownsRow B 3 1 (.slice (some ⟨g, 0, none⟩) 4 cap) 4 (ints [13, 7, 8, 2])) := h0
  clear h0
  go_enter Tryd.func16, Tryd.ntmps16
  go_wp2_with fail
  refine (Len_of 4 w (by omega) (by omega)).mono ?_
  rintro e w1 ⟨rfl, rfl⟩
  obtain ⟨lim, hlim⟩ : ∃ lim : Int, lim = (Lib.bitLen (Int.toNat 4) : Int) := ⟨_, rfl⟩
  rw [← hlim]
  clear hlim
  go_wp2_with fail
  refine (pdq_4 B g cap lim w1 hc HO.out).mono ?_
  rintro e w2 ⟨⟨v, rfl⟩, k2⟩
  have K2 : Hid (R4 B g cap w1 [2, 7, 8, 13] w2) := k2
  clear k2
  go_wp2
  go_end0
  exact ⟨⟨_, rfl⟩, K2.out⟩

theorem Sv.upto {b B : Nat} {c d : Int} {w w' : World} (h : Sv b c d w) (k : Below B w w') (hb : b < B) : Sv b c d w' :=
  ⟨(World.cell?_of_block (k.block b hb)).trans h.c0, (World.cell?_of_block (k.block b hb)).trans h.c1, (World.frozen?_of_block (k.block b hb)).trans h.f0, (World.frozen?_of_block (k.block b hb)).trans h.f1, Nat.lt_of_lt_of_le h.lt k.size⟩

set_option maxHeartbeats 2000000 in
theorem Roots_15 (w : World) (hT : Tb w) : Calls Tryd.prog 8 #[.int .i64 4, .int .i64 15] w fun e w' => ∃ g cap, e = .returned (.tuple #[.slice (some ⟨g, 0, none⟩) 4 cap, .agg #[.int .i64 0, .int .i64 0]]) ∧
    w'.ownsRow w.heap.size 3 1 (.slice (some ⟨g, 0, none⟩) 4 cap) 4 (ints [2, 7, 8, 13]) ∧ Below w.heap.size w w' := by
  have HT : Hid (Tb w) := hT
  have HNF : Hid (nf 0 [4, 15] = (0, 0)) := okB_nf (by decide)
  clear hT
  go_enter Tryd.func8, Tryd.ntmps8
  go_wp2_with fail
  refine (numbersFault_any [4, 15] _ 0 _ _ (by simp) ?_ ?_).mono ?_
  · simp
  · exact two_cells 4 15 _ _ (by simp) (by simp)
  rw [HNF.out]
  rintro e w1 ⟨rfl, hb⟩
  have hz : w.heap.size < w1.heap.size := by have := hb.size; simp at this; omega
  have F1 : Hid (Sv w.heap.size 0 0 w1) := ((Sv.new 0 0 w).alloc _ _).below hb
  have HT1 : Hid (Tb w1) := ((HT.out.alloc _).alloc _).below hb
  have HB1 : Hid (Below w.heap.size w w1) := Below.trans (Below.alloc (Below.alloc (Below.refl _ _) (Nat.le_refl _) _) (by simp) _) (hb.mono (by simp; omega))
  clear hb HT
  go_wp2_with fail
  refine (Factor_sm [3, 5] 15 ⟨by decide, by decide⟩ (by decide) rfl (by decide) _).mono ?_
  rintro e w2 ⟨a, c, rfl, row, k2⟩
  replace row : w2.ownsRow (w1.alloc (.cells #[.int .i64 0, .int .i64 0] 25)).heap.size 48 2 (.slice a 2 c) 2 [.int .i64 3, .int .i64 1, .int .i64 5, .int .i64 1] := row
  rw [show (tly [3, 5]).length = 2 from rfl]
  obtain ⟨gp, rfl⟩ : ∃ gp, a = some ⟨gp, 0, none⟩ := by
    rcases row.2 with ⟨_, h⟩ | ⟨gp, _, _, h, _⟩
    · omega
    · simp only [Value.slice.injEq] at h; exact ⟨gp, h.1⟩
  have hcp : 2 ≤ c := by
    rcases row.2 with ⟨h, h2⟩ | ⟨_, _, _, h, _, _, h4, _⟩
    · omega
    · cases h; exact h4
  have KB : Below w1.heap.size w1 w2 := ((Below.refl _ _).alloc (Nat.le_refl _) _).trans (k2.mono (by simp))
  have z2 := KB.size
  have HC2 : Hid (w2.cell? ⟨gp, 0, none⟩ = some (.int .i64 3) ∧ w2.cell? ⟨gp, 1, none⟩ = some (.int .i64 1) ∧ w2.cell? ⟨gp, 2, none⟩ = some (.int .i64 5) ∧ w2.cell? ⟨gp, 3, none⟩ = some (.int .i64 1)) :=
    ⟨row.cellAt 0 (by decide), row.cellAt 1 (by decide), row.cellAt 2 (by decide), row.cellAt 3 (by decide)⟩
  have hgp := (row.lt gp rfl).2
  have F2 : Hid (Sv w.heap.size 0 0 w2) := F1.out.below KB
  have HT2 : Hid (Tb w2) := HT1.out.below KB
  have HB2 : Hid (Below w.heap.size w w2) := HB1.out.trans (KB.mono (by omega))
  clear row k2 KB F1 HT1 HB1
  go_wp2_with fail
  have ka := (Below.refl w2.heap.size w2).alloc (Nat.le_refl _) (.cells #[.int .i64 0, .int .i64 0] 25)
  refine (familiesBy_15 gp c _ (by simp; omega) ((ka.cell (p := ⟨gp, 0, none⟩) hgp).trans HC2.out.1) ((ka.cell (p := ⟨gp, 1, none⟩) hgp).trans HC2.out.2.1) ((ka.cell (p := ⟨gp, 2, none⟩) hgp).trans HC2.out.2.2.1) ((ka.cell (p := ⟨gp, 3, none⟩) hgp).trans HC2.out.2.2.2) hcp (HT2.out.alloc _)).mono ?_
  rintro e w3 ⟨gf, g1, g2, cf, rfl, row, hc1, hc2, k3⟩
  have K3 : Below w2.heap.size w2 w3 := ka.trans (k3.mono (by simp))
  have z3 := K3.size
  have hgf := (row.lt gf rfl).2
  have hcf : 2 ≤ cf := by
    rcases row.2 with ⟨h, h2⟩ | ⟨_, _, _, h, _, _, h4, _⟩
    · omega
    · cases h; exact h4
  have HCf : Hid (∀ j v, (fam g1 3 ++ fam g2 5)[j]? = some v → w3.cell? ⟨gf, j, none⟩ = some v) := by
    intro j v hv
    have hj : j < 6 := (List.getElem?_eq_some_iff.1 hv).1
    rw [row.cellAt j (by omega), hv]
  have C3 : Hid (Cl g1 [.int .i64 1, .int .i64 2] 3 w3 ∧ Cl g2 [.int .i64 3, .int .i64 2] 3 w3) := ⟨hc1, hc2⟩
  have F3 : Hid (Sv w.heap.size 0 0 w3) := F2.out.below K3
  have HB3 : Hid (Below w.heap.size w w3) := HB2.out.trans (K3.mono (by omega))
  clear row k3 ka hc1 hc2 HC2 F2 HT2 HB2 K3
  go_wp2_with fail
  refine (choices_15 gf g1 g2 cf _ hgf HCf.out hcf).mono ?_
  rintro e w4 ⟨rfl, k4⟩
  have z4 := k4.size
  have HC4 : Hid (∀ j v, (fam g1 3 ++ fam g2 5)[j]? = some v → w4.cell? ⟨gf, j, none⟩ = some v) := fun j v hv => (k4.cell (p := ⟨gf, j, none⟩) hgf).trans (HCf.out j v hv)
  have C4 : Hid (Cl g1 [.int .i64 1, .int .i64 2] 3 w4 ∧ Cl g2 [.int .i64 3, .int .i64 2] 3 w4) := ⟨C3.out.1.below k4, C3.out.2.below k4⟩
  have F4 : Hid (Sv w.heap.size 0 0 w4) := F3.out.below k4
  have HB4 : Hid (Below w.heap.size w w4) := HB3.out.trans (k4.mono (by omega))
  clear k4 HCf C3 F3 HB3
  go_wp2_with fail
  refine (joined_15 gf g1 g2 cf w4 hcf (by omega) HC4.out C4.out.1 C4.out.2).mono ?_
  rintro e w5 ⟨g, cap, rfl, row, k5⟩
  have z5 := k5.size
  have hcap : 4 ≤ cap := by
    rcases row.2 with ⟨h, h2⟩ | ⟨_, _, _, h, _, _, h4, _⟩
    · omega
    · cases h; exact h4
  have R5 : Hid (w5.ownsRow w4.heap.size 3 1 (.slice (some ⟨g, 0, none⟩) 4 cap) 4 (ints [13, 7, 8, 2])) := row
  have F5 : Hid (Sv w.heap.size 0 0 w5) := F4.out.below k5
  have HB5 : Hid (Below w.heap.size w w5) := HB4.out.trans (k5.mono (by omega))
  clear row k5 HC4 C4 F4 HB4
  go_wp2_with fail
  refine (Sort_4 w4.heap.size g cap w5 hcap R5.out).mono ?_
  rintro e w6 ⟨⟨v, rfl⟩, k6⟩
  have F6 := F5.out.upto k6.b (by omega)
  have HR6 : Hid (w6.ownsRow w4.heap.size 3 1 (.slice (some ⟨g, 0, none⟩) 4 cap) 4 (ints [2, 7, 8, 13])) := k6.row
  have HB6 : Hid (Below w.heap.size w w6) := HB5.out.trans (k6.b.mono (by omega))
  have q0 := F6.c0
  have q1 := F6.c1
  have q2 := F6.f0
  have q3 := F6.f1
  have q4 := F6.lt
  clear k6 F6 F5 HB5 R5
  go_wp2
  refine bodyPost_ret (v := .tuple #[.slice (some ⟨g, 0, none⟩) 4 cap, .agg #[.int .i64 0, .int .i64 0]]) (by simp [results, Tryd.results8, go_sem, q0, q1, q4]) rfl ?_
  have h5 := ownsRow_setCell_below (ownsRow_setCell_below HR6.out (a := ⟨w.heap.size, 0, none⟩) (by show w.heap.size < _; omega) (.int .i64 0)) (a := ⟨w.heap.size, 1, none⟩) (by show w.heap.size < _; omega) (.int .i64 0)
  refine ⟨g, cap, rfl, ?_, (HB6.out.setCell (by simp) _).setCell (by simp) _⟩
  obtain ⟨h6, h7⟩ := h5
  refine ⟨h6, ?_⟩
  rcases h7 with h8 | ⟨g9, cp9, cur, h9, h10, h11⟩
  · exact .inl h8
  · exact .inr ⟨g9, cp9, cur, h9, by omega, h11⟩

theorem is_row {B g n cap : Nat} {W : World} {l : List Int} (h : W.ownsRow B 3 1 (.slice (some ⟨g, 0, none⟩) n cap) n (ints l)) (hn : n = l.length) : IS W (.slice (some ⟨g, 0, none⟩) n cap) l := by
  subst hn
  refine ⟨⟨_, g, 0, cap, rfl, fun _ => rfl, fun i hi => ?_, fun _ => (h.lt g rfl).2⟩⟩
  rw [Nat.zero_add, h.cellAt i (by omega), ints, List.getElem?_map, List.getD_eq_getElem?_getD, List.getElem?_eq_getElem hi]; rfl

theorem is_cells {W : World} {b : Nat} {l : List Int} {t : TypeId} (h : Cl b (ints l) t W) : IS W (.slice (some ⟨b, 0, none⟩) l.length l.length) l := by
  refine ⟨⟨_, b, 0, l.length, rfl, fun _ => rfl, fun i hi => ?_, fun _ => h.lt⟩⟩
  rw [Nat.zero_add, h.cell i, ints, List.getElem?_map, List.getD_eq_getElem?_getD, List.getElem?_eq_getElem hi]; rfl

set_option maxHeartbeats 1000000 in
theorem res_begun : ResBegun := by
  intro w hT
  have HT : Hid (Tb w) := hT
  have HJ : Hid (Calls Tryd.prog 6 #[.int .i64 2, .int .i64 15] w fun e w' => e = .returned (.tuple #[.int .i64 1, .agg #[.int .i64 0, .int .i64 0]]) ∧ Below w.heap.size w w') := by
    have h := jac_is 2 15 w (by decide) (by decide) (by decide) (by decide) hT
    have h2 := jac_two 15 (by decide)
    rw [show (((2 : Int)) % ((15 : Nat) : Int)).toNat = 2 % 15 from rfl, h2, show twoS 15 = 1 from rfl] at h
    exact h
  clear hT
  go_enter Tryd.func4, Tryd.ntmps4
  go_wp2_with fail
  refine HJ.out.mono ?_
  rintro e w1 ⟨rfl, k1⟩
  have K1 : Hid (Below w.heap.size w w1) := k1
  have HT1 : Hid (Tb w1) := HT.out.below k1
  have z1 := k1.size
  clear k1 HT HJ
  go_wp2_with fail
  refine (Roots_15 _ (HT1.out.alloc _)).mono ?_
  rintro e w2 ⟨g, cap, rfl, row, k2⟩
  have z2 := k2.size
  simp at z2
  have S2 := (Sv.new 0 0 w1).below k2
  have q0 := S2.c0
  have q1 := S2.lt
  have R2 : Hid (w2.ownsRow (w1.heap.size + 1) 3 1 (.slice (some ⟨g, 0, none⟩) 4 cap) 4 (ints [2, 7, 8, 13])) := by
    have h := row
    rw [World.size_alloc] at h
    exact h
  have K2 : Hid (Below w.heap.size w w2) := (K1.out.alloc z1 _).trans (k2.mono (by simp; omega))
  clear row k2 S2 K1 HT1
  go_wp2_with fail
  refine (refInts_same _ _ [2, 7, 8, 13] _ (is_row (l := [2, 7, 8, 13]) ((R2.out.alloc _).alloc _) rfl) ?_ (by simp)).mono ?_
  · have h := Cl.new (ints [2, 7, 8, 13]) 3 (w2.alloc (.cells #[.int .i64 0, .int .i64 0] 25))
    rw [World.size_alloc] at h
    exact is_cells h
  rintro e w3 ⟨rfl, q, rfl⟩
  go_wp2
  go_ret
  have zk := K2.out.size
  exact ⟨rfl, below_drewN' ((K2.out.alloc zk _).alloc (by simp; omega) _)⟩

end Go.Proofs.YthfoakbpoggmbacDoor
