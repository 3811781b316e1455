/- familyBy, familiesBy, choices at the example (-3 by 3). -/
import Derived.Test.YtogdggdaaiajnadGreatDoorRsD
set_option linter.unusedSimpArgs false
set_option linter.unusedVariables false
set_option maxRecDepth 100000
namespace Go.Proofs.YtogdggdaaiajnadGreatDoor.R3
open Go.RowKit

/-- A family of one root. -/
def fam1 (g : Nat) (p : Int) : List Value := [.slice (some ⟨g, 0, none⟩) 1 1, .int .i64 p, .int .i64 1]

theorem many_one (g : Nat) (p : Int) (w : World) : Calls Tryz.prog 135 #[.agg #[.slice (some ⟨g, 0, none⟩) 1 1, .int .i64 p, .int .i64 1]] w fun e w' => e = .returned (.int .i64 1) ∧ Below w.heap.size w w' := by
  go_enter Tryz.func135, Tryz.ntmps135
  go_wp2
  go_ret
  exact ⟨rfl, Below.alloc (Below.refl _ _) (Nat.le_refl _) _⟩

theorem power_one (g : Nat) (p : Int) (w : World) (h0 : 0 ≤ p) (h1 : p ≤ 100) : Calls Tryz.prog 137 #[.agg #[.slice (some ⟨g, 0, none⟩) 1 1, .int .i64 p, .int .i64 1]] w fun e w' => e = .returned (.int .i64 p) ∧ Below w.heap.size w w' := by
  go_enter Tryz.func137, Tryz.ntmps137
  go_wp2
  go_ret
  exact ⟨by simp, Below.alloc (Below.refl _ _) (Nat.le_refl _) _⟩

set_option maxHeartbeats 1000000 in
theorem familyBy_3 (w : World) : Calls Tryz.prog 134 #[.agg #[.int .i64 3, .int .i64 1], .int .i64 (-3)] w fun e w' => ∃ g, e = .returned (.agg #[.slice (some ⟨g, 0, none⟩) 1 1, .int .i64 3, .int .i64 1]) ∧ w.heap.size ≤ g ∧ Cl g [.int .i64 0] 3 w' ∧ Below w.heap.size w w' := by
  go_enter Tryz.func134, Tryz.ntmps134
  go_wp2_with fail
  refine (raised_one 3 _ (by decide)).mono ?_
  rintro e w1 ⟨rfl, rfl⟩
  go_wp2_with fail
  refine (left_any (-3) 3 _ (by decide) (by decide) (by decide)).mono ?_
  rintro e w1 ⟨rfl, rfl⟩
  go_wp2_with fail
  refine (raised_zero 3 _).mono ?_
  rintro e w1 ⟨rfl, rfl⟩
  go_wp2
  refine bodyPost_ret (v := .agg #[.slice (some ⟨w.heap.size + 1 + 1, 0, none⟩) 1 1, .int .i64 3, .int .i64 1]) (by simp [results, Tryz.results134, go_sem]) rfl ⟨w.heap.size + 1 + 1, rfl, by omega, ?_, ?_⟩
  · have h := Cl.new [.int .i64 0] 3 ((w.alloc (.cells #[.int .i64 3, .int .i64 1] 101)).alloc (.cells #[.slice (some ⟨w.heap.size + 1 + 1, 0, none⟩) 1 1, .int .i64 3, .int .i64 1] 135))
    rw [World.size_alloc, World.size_alloc] at h; exact h
  · exact ((Below.alloc (Below.refl _ _) (Nat.le_refl _) _).alloc (by simp) _).alloc (by simp; omega) _

set_option maxHeartbeats 1000000 in
theorem familiesBy_3 (gp cp : Nat) (w : World) (hgp : gp < w.heap.size) (h0 : w.cell? ⟨gp, 0, none⟩ = some (.int .i64 3)) (h1 : w.cell? ⟨gp, 1, none⟩ = some (.int .i64 1)) (hcp : 1 ≤ cp) :
    Calls Tryz.prog 111 #[.slice (some ⟨gp, 0, none⟩) 1 cp, .int .i64 (-3)] w fun e w' => ∃ g g1 cap, e = .returned (.slice (some ⟨g, 0, none⟩) 1 cap) ∧
      w'.ownsRow w.heap.size 135 3 (.slice (some ⟨g, 0, none⟩) 1 cap) 1 (fam1 g1 3) ∧ Cl g1 [.int .i64 0] 3 w' ∧ Below w.heap.size w w' := by
  have HC : Hid (w.cell? ⟨gp, 0, none⟩ = some (.int .i64 3) ∧ w.cell? ⟨gp, 1, none⟩ = some (.int .i64 1)) := ⟨h0, h1⟩
  obtain ⟨i0, hi, hz0, hz1, hz2⟩ := info_parts Tryz.infoFamily
  have HI : Hid (Tryz.prog.info? 135 = some i0 ∧ i0.zero = some (.agg #[.slice none 0 0, .int .i64 0, .int .i64 0]) ∧ i0.size = 3 ∧ i0.bytes = 40) := ⟨hi, hz0, hz1, hz2⟩
  clear h0 h1 hi hz0 hz1 hz2
  go_enter Tryz.func111, Tryz.ntmps111
  go_wp2
  go_loopw [5, 10] (fun lv iv wx => (lv = .slice none 0 0 ∧ iv = .int .i64 0 ∧ Hid (Below w.heap.size w wx)) ∨
      (∃ g c g1, lv = .slice (some ⟨g, 0, none⟩) 1 c ∧ iv = .int .i64 1 ∧ Hid (wx.ownsRow w.heap.size 135 3 (.slice (some ⟨g, 0, none⟩) 1 c) 1 (fam1 g1 3) ∧ Cl g1 [.int .i64 0] 3 wx ∧ Below w.heap.size w wx))) (fun _ iv _ => 1 - (intOf iv).toNat)
  case atStart => exact .inl ⟨rfl, rfl, Below.refl _ _⟩
  case round =>
    rcases hrel with ⟨rfl, rfl, HB⟩ | ⟨g, c, g1, rfl, rfl, HR⟩
    · have c0 := (HB.out.cell (p := ⟨gp, 0, none⟩) hgp).trans HC.out.1
      have c1 := (HB.out.cell (p := ⟨gp, 1, none⟩) hgp).trans HC.out.2
      go_wp2_with fail
      refine (familyBy_3 _).mono ?_
      rintro e w2 ⟨g1, rfl, hg1, hc1, k2⟩
      have C1 : Hid (Cl g1 [.int .i64 0] 3 w2) := hc1
      have K2 : Hid (Below w.heap.size w w2) := (HB.out.alloc HB.out.size _).trans (k2.mono (by have := HB.out.size; simp; omega))
      have z2 := K2.out.size
      clear hc1 k2 c0 c1
      go_wp2_with (at_builtin; refine wpList_append_own _ rfl _ _ 120 rfl w.heap.size 135 i0 (.agg #[.slice none 0 0, .int .i64 0, .int .i64 0]) 3 40 Tryz.underlying120 HI.out.1 HI.out.2.1 HI.out.2.2.1 HI.out.2.2.2 rfl (by decide) (.slice none 0 0) 0 [] rfl (World.ownsRow_nil _ _ _ _) ⟨w2.heap.size, 0, none⟩ 1 1 (fam1 g1 3) rfl rfl (cells_new _ _ _) (by simp [fam1, Value.oneCell']) (by simp only [maxLen]; omega) (by omega) (by simp; omega) ?_; intro v' w1 hown' hgrow _; obtain ⟨g', cap', rfl⟩ := ownsRow_succ hown')
      have HN : Hid (w1.ownsRow w.heap.size 135 3 (.slice (some ⟨g', 0, none⟩) 1 cap') 1 (fam1 g1 3) ∧ Cl g1 [.int .i64 0] 3 w1 ∧ Below w.heap.size w w1) :=
        ⟨by simpa using hown', (C1.out.alloc _).grown hgrow (by simp [Value.ownBlock]), (K2.out.alloc z2 _).grown hgrow (by simp; omega) (fun k e => by simp [Value.ownBlock] at e)⟩
      clear hown' hgrow
      go_wp2
      go_roundw
      case rel => exact .inr ⟨g', cap', g1, rfl, by go_num, HN.out⟩
      case measure => simp [intOf]
    · go_wp2
      go_ret
      exact ⟨g, g1, c, rfl, HR.out⟩

set_option maxHeartbeats 1000000 in
theorem choices_3 (gf g1 cf : Nat) (w : World) (hgf : gf < w.heap.size) (hc : ∀ j v, (fam1 g1 3)[j]? = some v → w.cell? ⟨gf, j, none⟩ = some v) (hcf : 1 ≤ cf) :
    Calls Tryz.prog 112 #[.slice (some ⟨gf, 0, none⟩) 1 cf] w fun e w' => e = .returned (.int .i64 1) ∧ Below w.heap.size w w' := by
  have HC : Hid (∀ j v, (fam1 g1 3)[j]? = some v → w.cell? ⟨gf, j, none⟩ = some v) := hc
  clear hc
  go_enter Tryz.func112, Tryz.ntmps112
  go_wp2
  go_loopw [3, 8] (fun mv iv wx => ((mv = .int .i64 1 ∧ iv = .int .i64 0) ∨ (mv = .int .i64 1 ∧ iv = .int .i64 1)) ∧ Hid (Below w.heap.size w wx)) (fun _ iv _ => 1 - (intOf iv).toNat)
  case atStart => exact ⟨.inl ⟨rfl, rfl⟩, Below.refl _ _⟩
  case round =>
    obtain ⟨⟨rfl, rfl⟩ | ⟨rfl, rfl⟩, HB⟩ := hrel
    · have c0 := (HB.out.cell (p := ⟨gf, 0, none⟩) hgf).trans (HC.out 0 _ rfl)
      have c1 := (HB.out.cell (p := ⟨gf, 1, none⟩) hgf).trans (HC.out 1 _ rfl)
      have c2 := (HB.out.cell (p := ⟨gf, 2, none⟩) hgf).trans (HC.out 2 _ rfl)
      go_wp2_with fail
      refine (many_one g1 3 _).mono ?_
      rintro e w2 ⟨rfl, k2⟩
      have K2 : Hid (Below w.heap.size w w2) := (HB.out.alloc HB.out.size _).trans (k2.mono (by have := HB.out.size; simp; omega))
      clear k2 c0 c1 c2
      go_wp2
      go_roundw
      case rel => exact ⟨.inr ⟨rfl, rfl⟩, K2.out⟩
      case measure => simp [intOf]
    · go_wp2
      go_ret
      exact ⟨rfl, HB.out⟩


end Go.Proofs.YtogdggdaaiajnadGreatDoor.R3
