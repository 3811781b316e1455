/- familiesBy and choices at the example (4 by 15). -/
import Derived.Test.YtogdggdaaiajnadGreatDoorRsC
import Derived.Test.YtogdggdaaiajnadGreatDoorPrimeX
set_option linter.unusedSimpArgs false
set_option linter.unusedVariables false
set_option maxRecDepth 100000
namespace Go.Proofs.YtogdggdaaiajnadGreatDoor
open Go.RowKit

theorem Tryz.infoFamily : (Tryz.prog.info? 135).map (fun i => (i.zero, i.size, i.bytes)) = some (some (.agg #[.slice none 0 0, .int .i64 0, .int .i64 0]), 3, 40) := by kernel_rfl

/-- A family's three cells. -/
def fam (g : Nat) (p : Int) : List Value := [.slice (some ⟨g, 0, none⟩) 2 2, .int .i64 p, .int .i64 1]

theorem cells_new (l : List Value) (t : TypeId) (w : World) : ∀ j u, l[j]? = some u → (w.alloc (.cells l.toArray t)).cell? ((⟨w.heap.size, 0, none⟩ : Addr).add j) = some u := by
  intro j u h
  have := (Cl.new l t w).cell j
  simp only [Addr.add, Nat.zero_add]
  split
  · subst_vars; rw [this, h]
  · rw [this, h]
theorem row3_below {B n c g : Nat} {t : TypeId} {W W' : World} {xs : List Value} (h : W.ownsRow B t 3 (.slice (some ⟨g, 0, none⟩) n c) n xs) (k : Below W.heap.size W W') : W'.ownsRow B t 3 (.slice (some ⟨g, 0, none⟩) n c) n xs := by
  obtain ⟨h1, h2⟩ := h
  refine ⟨h1, ?_⟩
  rcases h2 with h3 | ⟨g, cap, cur, h3, h4, h5, h6⟩
  · exact .inl h3
  · exact .inr ⟨g, cap, cur, h3, h4, (k.block g (Array.getElem?_eq_some_iff.1 h5).1).trans h5, h6⟩
theorem row3_ne {B n c g g1 : Nat} {t t1 : TypeId} {W : World} {xs l : List Value} (h : W.ownsRow B t 3 (.slice (some ⟨g, 0, none⟩) n c) n xs) (h1 : Cl g1 l t1 W) (ht : t ≠ t1) : g ≠ g1 := by
  rintro rfl
  rcases h.2 with ⟨h3, _⟩ | ⟨g', cap, cur, h3, _, h5, _⟩
  · cases h3
  · simp only [Value.slice.injEq, Option.some.injEq, Addr.mk.injEq, and_true, true_and] at h3
    obtain ⟨rfl, _⟩ := h3
    unfold Cl at h1
    rw [h1] at h5
    simp only [Option.some.injEq, Obj.cells.injEq] at h5
    exact ht h5.2.1.symm

set_option maxHeartbeats 1000000 in
theorem familiesBy_15 (gp cp : Nat) (w : World) (hgp : gp < w.heap.size) (h0 : w.cell? ⟨gp, 0, none⟩ = some (.int .i64 3)) (h1 : w.cell? ⟨gp, 1, none⟩ = some (.int .i64 1))
    (h2 : w.cell? ⟨gp, 2, none⟩ = some (.int .i64 5)) (h3 : w.cell? ⟨gp, 3, none⟩ = some (.int .i64 1)) (hcp : 2 ≤ cp) (hT : Tb w) :
    Calls Tryz.prog 111 #[.slice (some ⟨gp, 0, none⟩) 2 cp, .int .i64 4] w fun e w' => ∃ g g1 g2 cap, e = .returned (.slice (some ⟨g, 0, none⟩) 2 cap) ∧
      w'.ownsRow w.heap.size 135 3 (.slice (some ⟨g, 0, none⟩) 2 cap) 2 (fam g1 3 ++ fam g2 5) ∧ Cl g1 [.int .i64 1, .int .i64 2] 3 w' ∧ Cl g2 [.int .i64 3, .int .i64 2] 3 w' ∧ Below w.heap.size w w' := by
  have HT : Hid (Tb w) := hT
  have HC : Hid (w.cell? ⟨gp, 0, none⟩ = some (.int .i64 3) ∧ w.cell? ⟨gp, 1, none⟩ = some (.int .i64 1) ∧ w.cell? ⟨gp, 2, none⟩ = some (.int .i64 5) ∧ w.cell? ⟨gp, 3, none⟩ = some (.int .i64 1)) := ⟨h0, h1, h2, h3⟩
  obtain ⟨i0, hi, hz0, hz1, hz2⟩ := info_parts Tryz.infoFamily
  have HI : Hid (Tryz.prog.info? 135 = some i0 ∧ i0.zero = some (.agg #[.slice none 0 0, .int .i64 0, .int .i64 0]) ∧ i0.size = 3 ∧ i0.bytes = 40) := ⟨hi, hz0, hz1, hz2⟩
  clear hT h0 h1 h2 h3 hi hz0 hz1 hz2
  go_enter Tryz.func111, Tryz.ntmps111
  go_wp2
  go_loopw [5, 10] (fun lv iv wx => (lv = .slice none 0 0 ∧ iv = .int .i64 0 ∧ Hid (Below w.heap.size w wx)) ∨
      (∃ g c g1, lv = .slice (some ⟨g, 0, none⟩) 1 c ∧ iv = .int .i64 1 ∧ Hid (wx.ownsRow w.heap.size 135 3 (.slice (some ⟨g, 0, none⟩) 1 c) 1 (fam g1 3) ∧ Cl g1 [.int .i64 1, .int .i64 2] 3 wx ∧ Below w.heap.size w wx)) ∨
      (∃ g c g1 g2, lv = .slice (some ⟨g, 0, none⟩) 2 c ∧ iv = .int .i64 2 ∧ Hid (wx.ownsRow w.heap.size 135 3 (.slice (some ⟨g, 0, none⟩) 2 c) 2 (fam g1 3 ++ fam g2 5) ∧ Cl g1 [.int .i64 1, .int .i64 2] 3 wx ∧ Cl g2 [.int .i64 3, .int .i64 2] 3 wx ∧ Below w.heap.size w wx))) (fun _ iv _ => 2 - (intOf iv).toNat)
  case atStart => exact .inl ⟨rfl, rfl, Below.refl _ _⟩
  case round =>
    rcases hrel with ⟨rfl, rfl, HB⟩ | ⟨g, c, g1, rfl, rfl, HR⟩ | ⟨g, c, g1, g2, rfl, rfl, HR⟩
    · have c0 := (HB.out.cell (p := ⟨gp, 0, none⟩) hgp).trans HC.out.1
      have c1 := (HB.out.cell (p := ⟨gp, 1, none⟩) hgp).trans HC.out.2.1
      have HTr : Hid (Tb wr) := HT.out.upto HB.out (Nat.le_refl _)
      go_wp2_with fail
      refine (familyBy_3 _ (HTr.out.alloc _)).mono ?_
      rintro e w2 ⟨g1, rfl, hg1, hc1, k2⟩
      have C1 : Hid (Cl g1 [.int .i64 1, .int .i64 2] 3 w2) := hc1
      have K2 : Hid (Below w.heap.size w w2) := (HB.out.alloc HB.out.size _).trans (k2.mono (by have := HB.out.size; simp; omega))
      have z2 := K2.out.size
      clear hc1 k2 HTr c0 c1
      go_wp2_with (at_builtin; refine wpList_append_own _ rfl _ _ 120 rfl w.heap.size 135 i0 (.agg #[.slice none 0 0, .int .i64 0, .int .i64 0]) 3 40 Tryz.underlying120 HI.out.1 HI.out.2.1 HI.out.2.2.1 HI.out.2.2.2 rfl (by decide) (.slice none 0 0) 0 [] rfl (World.ownsRow_nil _ _ _ _) ⟨w2.heap.size, 0, none⟩ 1 1 (fam g1 3) rfl rfl (cells_new _ _ _) (by simp [fam, Value.oneCell']) (by simp only [maxLen]; omega) (by omega) (by simp; omega) ?_; intro v' w1 hown' hgrow _; obtain ⟨g', cap', rfl⟩ := ownsRow_succ hown')
      have HN : Hid (w1.ownsRow w.heap.size 135 3 (.slice (some ⟨g', 0, none⟩) 1 cap') 1 (fam g1 3) ∧ Cl g1 [.int .i64 1, .int .i64 2] 3 w1 ∧ Below w.heap.size w w1) :=
        ⟨by simpa using hown', (C1.out.alloc _).grown hgrow (by simp [Value.ownBlock]), (K2.out.alloc z2 _).grown hgrow (by simp; omega) (fun k e => by simp [Value.ownBlock] at e)⟩
      clear hown' hgrow
      go_wp2
      go_roundw
      case rel => exact .inr (.inl ⟨g', cap', g1, rfl, by go_num, HN.out⟩)
      case measure => simp [intOf]
    · have hbl := HR.out.2.2
      have c2 := (hbl.cell (p := ⟨gp, 2, none⟩) hgp).trans HC.out.2.2.1
      have c3 := (hbl.cell (p := ⟨gp, 3, none⟩) hgp).trans HC.out.2.2.2
      have HTr : Hid (Tb wr) := HT.out.upto hbl (Nat.le_refl _)
      have hsz := hbl.size
      clear hbl
      go_wp2_with fail
      refine (familyBy_5 _ (HTr.out.alloc _)).mono ?_
      rintro e w2 ⟨g2, rfl, hg2, hc2, k2⟩
      have C2 : Hid (Cl g2 [.int .i64 3, .int .i64 2] 3 w2) := hc2
      have K2 : Hid (Below w.heap.size w w2) := (HR.out.2.2.alloc hsz _).trans (k2.mono (by simp; omega))
      have C1 : Hid (Cl g1 [.int .i64 1, .int .i64 2] 3 w2) := (HR.out.2.1.alloc _).below k2
      have R2 : Hid (w2.ownsRow w.heap.size 135 3 (.slice (some ⟨g, 0, none⟩) 1 c) 1 (fam g1 3)) := row3_below (HR.out.1.alloc _) k2
      have z2 := K2.out.size
      clear hc2 k2 HTr c2 c3 HR
      go_wp2_with (at_builtin; refine wpList_append_own _ rfl _ _ 120 rfl w.heap.size 135 i0 (.agg #[.slice none 0 0, .int .i64 0, .int .i64 0]) 3 40 Tryz.underlying120 HI.out.1 HI.out.2.1 HI.out.2.2.1 HI.out.2.2.2 rfl (by decide) (.slice (some ⟨g, 0, none⟩) 1 c) 1 (fam g1 3) rfl (R2.out.alloc _) ⟨w2.heap.size, 0, none⟩ 1 1 (fam g2 5) rfl rfl (cells_new _ _ _) (by simp [fam, Value.oneCell']) (by simp only [maxLen]; omega) (by omega) (by simp; omega) ?_; intro v' w1 hown' hgrow _; obtain ⟨g', cap', rfl⟩ := ownsRow_succ hown')
      have n1 : g ≠ g1 := row3_ne R2.out C1.out (by decide)
      have n2 : g ≠ g2 := row3_ne R2.out C2.out (by decide)
      have HN : Hid (w1.ownsRow w.heap.size 135 3 (.slice (some ⟨g', 0, none⟩) 2 cap') 2 (fam g1 3 ++ fam g2 5) ∧ Cl g1 [.int .i64 1, .int .i64 2] 3 w1 ∧ Cl g2 [.int .i64 3, .int .i64 2] 3 w1 ∧ Below w.heap.size w w1) :=
        ⟨hown', (C1.out.alloc _).grown hgrow (by simp [Value.ownBlock]; exact n1), (C2.out.alloc _).grown hgrow (by simp [Value.ownBlock]; exact n2), (K2.out.alloc z2 _).grown hgrow (by simp; omega) (fun k e => (R2.out.lt k e).1)⟩
      clear hown' hgrow
      go_wp2
      go_roundw
      case rel => exact .inr (.inr ⟨g', cap', g1, g2, rfl, by go_num, HN.out⟩)
      case measure => simp [intOf]
    · go_wp2
      go_ret
      exact ⟨g, g1, g2, c, rfl, HR.out⟩

theorem many_is (g : Nat) (p : Int) (w : World) : Calls Tryz.prog 135 #[.agg #[.slice (some ⟨g, 0, none⟩) 2 2, .int .i64 p, .int .i64 1]] w fun e w' => e = .returned (.int .i64 2) ∧ Below w.heap.size w w' := by
  go_enter Tryz.func135, Tryz.ntmps135
  go_wp2
  go_ret
  exact ⟨rfl, Below.alloc (Below.refl _ _) (Nat.le_refl _) _⟩

theorem power_is (g : Nat) (p : Int) (w : World) (h0 : 0 ≤ p) (h1 : p ≤ 100) : Calls Tryz.prog 137 #[.agg #[.slice (some ⟨g, 0, none⟩) 2 2, .int .i64 p, .int .i64 1]] w fun e w' => e = .returned (.int .i64 p) ∧ Below w.heap.size w w' := by
  go_enter Tryz.func137, Tryz.ntmps137
  go_wp2
  go_ret
  exact ⟨by simp, Below.alloc (Below.refl _ _) (Nat.le_refl _) _⟩

set_option maxHeartbeats 1000000 in
theorem choices_15 (gf g1 g2 cf : Nat) (w : World) (hgf : gf < w.heap.size) (hc : ∀ j v, (fam g1 3 ++ fam g2 5)[j]? = some v → w.cell? ⟨gf, j, none⟩ = some v) (hcf : 2 ≤ cf) :
    Calls Tryz.prog 112 #[.slice (some ⟨gf, 0, none⟩) 2 cf] w fun e w' => e = .returned (.int .i64 4) ∧ Below w.heap.size w w' := by
  have HC : Hid (∀ j v, (fam g1 3 ++ fam g2 5)[j]? = some v → w.cell? ⟨gf, j, none⟩ = some v) := hc
  clear hc
  go_enter Tryz.func112, Tryz.ntmps112
  go_wp2
  go_loopw [3, 8] (fun mv iv wx => ((mv = .int .i64 1 ∧ iv = .int .i64 0) ∨ (mv = .int .i64 2 ∧ iv = .int .i64 1) ∨ (mv = .int .i64 4 ∧ iv = .int .i64 2)) ∧ Hid (Below w.heap.size w wx)) (fun _ iv _ => 2 - (intOf iv).toNat)
  case atStart => exact ⟨.inl ⟨rfl, rfl⟩, Below.refl _ _⟩
  case round =>
    obtain ⟨⟨rfl, rfl⟩ | ⟨rfl, rfl⟩ | ⟨rfl, rfl⟩, HB⟩ := hrel
    · have c0 := (HB.out.cell (p := ⟨gf, 0, none⟩) hgf).trans (HC.out 0 _ rfl)
      have c1 := (HB.out.cell (p := ⟨gf, 1, none⟩) hgf).trans (HC.out 1 _ rfl)
      have c2 := (HB.out.cell (p := ⟨gf, 2, none⟩) hgf).trans (HC.out 2 _ rfl)
      go_wp2_with fail
      refine (many_is g1 3 _).mono ?_
      rintro e w2 ⟨rfl, k2⟩
      have K2 : Hid (Below w.heap.size w w2) := (HB.out.alloc HB.out.size _).trans (k2.mono (by have := HB.out.size; simp; omega))
      clear k2 c0 c1 c2
      go_wp2
      go_roundw
      case rel => exact ⟨.inr (.inl ⟨rfl, rfl⟩), K2.out⟩
      case measure => simp [intOf]
    · have c0 := (HB.out.cell (p := ⟨gf, 3, none⟩) hgf).trans (HC.out 3 _ rfl)
      have c1 := (HB.out.cell (p := ⟨gf, 4, none⟩) hgf).trans (HC.out 4 _ rfl)
      have c2 := (HB.out.cell (p := ⟨gf, 5, none⟩) hgf).trans (HC.out 5 _ rfl)
      go_wp2_with fail
      refine (many_is g2 5 _).mono ?_
      rintro e w2 ⟨rfl, k2⟩
      have K2 : Hid (Below w.heap.size w w2) := (HB.out.alloc HB.out.size _).trans (k2.mono (by have := HB.out.size; simp; omega))
      clear k2 c0 c1 c2
      go_wp2
      go_roundw
      case rel => exact ⟨.inr (.inr ⟨rfl, rfl⟩), K2.out⟩
      case measure => simp [intOf]
    · go_wp2
      go_ret
      exact ⟨rfl, HB.out⟩

end Go.Proofs.YtogdggdaaiajnadGreatDoor
