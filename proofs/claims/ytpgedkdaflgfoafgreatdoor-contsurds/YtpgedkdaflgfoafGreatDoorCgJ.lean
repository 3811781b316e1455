/- The program: hang.Moebius(5), cont.Unit(5). -/
import Derived.Test.YtpgedkdaflgfoafGreatDoorCgH
import Derived.Test.YtpgedkdaflgfoafGreatDoorPrimeQ
set_option linter.unusedSimpArgs false
set_option linter.unusedVariables false
set_option maxRecDepth 100000
namespace Go.Proofs.YtpgedkdaflgfoafGreatDoor
open Go.RowKit LgM CfM

theorem moe_one (p : Int) (w : World) :
    Calls Tryz.prog 94 #[.agg #[.int .i64 p, .int .i64 1]] w fun e w' => e = .returned (.int .i64 (-1)) ∧ Below w.heap.size w w' := by
  go_enter Tryz.func94, Tryz.ntmps94
  go_wp2
  go_ret
  exact ⟨rfl, (Below.refl _ _).alloc (Nat.le_refl _) _⟩

set_option maxHeartbeats 2000000 in
theorem product_five (a : Option Addr) (c B : Nat) (w : World) (hr : w.ownsRow B 136 2 (.slice a 1 c) 1 [.int .i64 5, .int .i64 1]) :
    Calls Tryz.prog 118 #[.slice a 1 c, .func (.func 94) #[] #[]] w fun e w' => e = .returned (.int .i64 (-1)) ∧ Below w.heap.size w w' := by
  obtain ⟨g, cap, he⟩ := ownsRow_succ (k := 0) hr
  simp only [Value.slice.injEq] at he
  obtain ⟨rfl, _, rfl⟩ := he
  have q0 : w.cell? ⟨g, 0, none⟩ = some (.int .i64 5) := by
    have := hr.cells (g := g) rfl 0 (.int .i64 5) rfl
    simpa [Addr.add] using this
  have q1 : w.cell? ⟨g, 1, none⟩ = some (.int .i64 1) := by
    have := hr.cells (g := g) rfl 1 (.int .i64 1) rfl
    simpa [Addr.add] using this
  have hg := (hr.lt g rfl).2
  clear hr
  go_enter Tryz.func118, Tryz.ntmps118
  go_wp2
  go_loopw [5, 10] (fun av iv wx => (av = .int .i64 1 ∧ iv = .int .i64 0 ∧ wx = w) ∨ (av = .int .i64 (-1) ∧ iv = .int .i64 1 ∧ Hid (Below w.heap.size w wx))) (fun _ iv _ => 1 - (intOf iv).toNat)
  case atStart => exact .inl ⟨rfl, rfl, rfl⟩
  case round =>
    rcases hrel with ⟨rfl, rfl, rfl⟩ | ⟨rfl, rfl, HB⟩
    · go_wp2_with (go_at_call 94; refine (moe_one _ _).mono ?_; rintro e w1 ⟨rfl, k1⟩)
      go_roundw
      case rel => exact .inr ⟨rfl, by go_num, ((Below.refl _ _).alloc (Nat.le_refl _) _).trans (k1.mono (by simp))⟩
      case measure => simp [intOf]
    · go_wp2
      go_ret
      exact ⟨rfl, HB.out⟩

set_option maxHeartbeats 2000000 in
theorem Moebius_five (w : World) :
    Calls Tryz.prog 60 #[.int .i64 5] w fun e w' => e = .returned (.tuple #[.int .i64 (-1), .agg #[.int .i64 0, .int .i64 0]]) ∧ Below w.heap.size w w' := by
  have HFc : Hid (∀ w, Calls Tryz.prog 117 #[.int .i64 5] w (FctPost [5] w)) := fun w => Factor_sm [5] 5 ⟨by decide, by decide⟩ (by decide) rfl (by decide) w
  have HPO : Hid (∀ w, Calls Tryz.prog 93 #[.int .i64 5, .func (.func 94) #[] #[]] w fun e w' => e = .returned (.tuple #[.int .i64 (-1), .agg #[.int .i64 0, .int .i64 0]]) ∧ Below w.heap.size w w') := by
    intro w
    go_enter Tryz.func93, Tryz.ntmps93
    go_wp2_with fail
    refine (HFc.out _).mono ?_
    rintro e w1 ⟨a, c, rfl, row, k1⟩
    have hpv : pvals (tly [5]) = [.int .i64 5, .int .i64 1] := rfl
    have hln : (tly [5]).length = 1 := rfl
    rw [hpv, hln] at row
    rw [hln]
    have F0 := (Cl.new [.int .i64 0, .int .i64 0] 25 w).below k1
    have ka := ((Below.refl w1.heap.size w1).alloc (Nat.le_refl _) (.cells #[.int .i64 0, .int .i64 0] 25))
    have row2 : (w1.alloc (.cells #[.int .i64 0, .int .i64 0] 25)).ownsRow (w.alloc (.cells #[.int .i64 0, .int .i64 0] 25)).heap.size 136 2 (.slice a 1 c) 1 [.int .i64 5, .int .i64 1] := row.alloc _
    have F1 := F0.below ka
    have K1 : Below w.heap.size w (w1.alloc (.cells #[.int .i64 0, .int .i64 0] 25)) := (((Below.refl _ w).alloc (Nat.le_refl _) _).trans (k1.mono (by simp))).trans (ka.mono (by have := k1.size; simp at this; omega))
    have HRow : Hid ((w1.alloc (.cells #[.int .i64 0, .int .i64 0] 25)).ownsRow (w.alloc (.cells #[.int .i64 0, .int .i64 0] 25)).heap.size 136 2 (.slice a 1 c) 1 [.int .i64 5, .int .i64 1]) := row2
    have HF1 : Hid (Cl w.heap.size [.int .i64 0, .int .i64 0] 25 (w1.alloc (.cells #[.int .i64 0, .int .i64 0] 25))) := F1
    have HK1 : Hid (Below w.heap.size w (w1.alloc (.cells #[.int .i64 0, .int .i64 0] 25))) := K1
    clear row row2 F0 F1 K1 ka k1 hpv hln
    go_wp2_with fail
    generalize hW2 : (w1.alloc (.cells #[.int .i64 0, .int .i64 0] 25)) = W2 at HRow HF1 HK1 ⊢
    refine (product_five a c _ W2 HRow.out).mono ?_
    rintro e w3 ⟨rfl, k3⟩
    have F3 := HF1.out.below k3
    have f0 := F3.cell 0
    have f1 := F3.cell 1
    have f2 := F3.frozen 0
    have f3 := F3.frozen 1
    simp at f0 f1
    have HF3 : Hid (Cl w.heap.size [.int .i64 0, .int .i64 0] 25 w3) := F3
    have HK3 : Hid (Below w.heap.size w w3) := HK1.out.trans (k3.mono (by have := HF1.out.lt; omega))
    clear F3 k3
    go_wp2
    have Z := (HF3.out.set 0 (.int .i64 0)).set 1 (.int .i64 0)
    have z0 := Z.cell 0
    have z1 := Z.cell 1
    simp at z0 z1
    exact bodyPost_ret (v := .tuple #[.int .i64 (-1), .agg #[.int .i64 0, .int .i64 0]]) (by simp [results, Tryz.results93, go_sem, z0, z1]) rfl ⟨rfl, (HK3.out.setCell (Nat.le_refl _) _).setCell (Nat.le_refl _) _⟩
  go_enter Tryz.func60, Tryz.ntmps60
  go_wp2_with fail
  refine (HPO.out _).mono ?_
  rintro e w1 ⟨rfl, k1⟩
  have F0 := (Cl.new [.int .i64 0, .int .i64 0] 25 w).below k1
  have f0 := F0.cell 0
  have f1 := F0.cell 1
  have f2 := F0.frozen 0
  have f3 := F0.frozen 1
  simp at f0 f1
  have HF3 : Hid (Cl w.heap.size [.int .i64 0, .int .i64 0] 25 w1) := F0
  have HK3 : Hid (Below w.heap.size w w1) := ((Below.refl _ w).alloc (Nat.le_refl _) _).trans (k1.mono (by simp))
  clear F0 k1
  go_wp2
  have Z := (HF3.out.set 0 (.int .i64 0)).set 1 (.int .i64 0)
  have z0 := Z.cell 0
  have z1 := Z.cell 1
  simp at z0 z1
  exact bodyPost_ret (v := .tuple #[.int .i64 (-1), .agg #[.int .i64 0, .int .i64 0]]) (by simp [results, Tryz.results60, go_sem, z0, z1]) rfl ⟨rfl, (HK3.out.setCell (Nat.le_refl _) _).setCell (Nat.le_refl _) _⟩

theorem five_sq : Sq 5 2 1 2 (fun _ => (1, 2)) := ⟨⟨by decide, by decide, by decide, by decide, by decide, by decide, by decide, by decide, by decide⟩, fun _ => ⟨by decide, by decide, by decide, by decide, by decide, by decide, by decide, by decide, by decide⟩⟩

end Go.Proofs.YtpgedkdaflgfoafGreatDoor
