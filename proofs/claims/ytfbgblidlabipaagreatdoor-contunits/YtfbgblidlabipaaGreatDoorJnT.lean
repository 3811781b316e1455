import Derived.Test.YtfbgblidlabipaaGreatDoorJnP
import Derived.Test.YtfbgblidlabipaaGreatDoorJnS
import Derived.Test.YtfbgblidlabipaaGreatDoorJnQ
import Derived.Test.YtfbgblidlabipaaGreatDoorJnR
section
/- The program: hang.Moebius(5), cont.Unit(5). -/
set_option linter.unusedSimpArgs false
set_option linter.unusedVariables false
set_option maxRecDepth 100000
namespace Go.Proofs.YtfbgblidlabipaaGreatDoor
open Go.RowKit LgM CfM

theorem moe_one (p : Int) (w : World) :
    Calls Tryz.prog 132 #[.agg #[.int .i64 p, .int .i64 1]] w fun e w' => e = .returned (.int .i64 (-1)) ∧ Below w.heap.size w w' := by
  go_enter Tryz.func132, Tryz.ntmps132
  go_wp2
  go_ret
  exact ⟨rfl, (Below.refl _ _).alloc (Nat.le_refl _) _⟩

set_option maxHeartbeats 2000000 in
theorem product_five (a : Option Addr) (c B : Nat) (w : World) (hr : w.ownsRow B 66 2 (.slice a 1 c) 1 [.int .i64 5, .int .i64 1]) :
    Calls Tryz.prog 181 #[.slice a 1 c, .func (.func 132) #[] #[]] w fun e w' => e = .returned (.int .i64 (-1)) ∧ Below w.heap.size w w' := by
  obtain ⟨g, cap, he⟩ := ownsRow_succ (k := 0) hr
  simp only [Value.slice.injEq] at he
  obtain ⟨rfl, _, rfl⟩ := he
  have q0 : w.cell? ⟨g, 0, none⟩ = some (.int .i64 5) := by
    have := hr.cells (g := g) rfl 0 (.int .i64 5) rfl
    simpa [Addr.add] using this
  have q1 : w.cell? ⟨g, 1, none⟩ = some (.int .i64 1) := by
    have := hr.cells (g := g) rfl 1 (.int .i64 1) rfl
    simpa [Addr.add] using this
  have hg := (hr.lt g rfl).2
  clear hr
  go_enter Tryz.func181, Tryz.ntmps181
  go_wp2
  go_loopw [5, 10] (fun av iv wx => (av = .int .i64 1 ∧ iv = .int .i64 0 ∧ wx = w) ∨ (av = .int .i64 (-1) ∧ iv = .int .i64 1 ∧ Hid (Below w.heap.size w wx))) (fun _ iv _ => 1 - (intOf iv).toNat)
  case atStart => exact .inl ⟨rfl, rfl, rfl⟩
  case round =>
    rcases hrel with ⟨rfl, rfl, rfl⟩ | ⟨rfl, rfl, HB⟩
    · go_wp2_with (go_at_call 132; refine (moe_one _ _).mono ?_; rintro e w1 ⟨rfl, k1⟩)
      go_roundw
      case rel => exact .inr ⟨rfl, by go_num, ((Below.refl _ _).alloc (Nat.le_refl _) _).trans (k1.mono (by simp))⟩
      case measure => simp [intOf]
    · go_wp2
      go_ret
      exact ⟨rfl, HB.out⟩

set_option maxHeartbeats 2000000 in
theorem Moebius_five (w : World) :
    Calls Tryz.prog 70 #[.int .i64 5] w fun e w' => e = .returned (.tuple #[.int .i64 (-1), .agg #[.int .i64 0, .int .i64 0]]) ∧ Below w.heap.size w w' := by
  have HFc : Hid (∀ w, Calls Tryz.prog 95 #[.int .i64 5] w (FctPost [5] w)) := fun w => Factor_sm [5] 5 ⟨by decide, by decide⟩ (by decide) rfl (by decide) w
  have HPO : Hid (∀ w, Calls Tryz.prog 131 #[.int .i64 5, .func (.func 132) #[] #[]] w fun e w' => e = .returned (.tuple #[.int .i64 (-1), .agg #[.int .i64 0, .int .i64 0]]) ∧ Below w.heap.size w w') := by
    intro w
    go_enter Tryz.func131, Tryz.ntmps131
    go_wp2_with fail
    refine (HFc.out _).mono ?_
    rintro e w1 ⟨a, c, rfl, row, k1⟩
    have hpv : pvals (tly [5]) = [.int .i64 5, .int .i64 1] := rfl
    have hln : (tly [5]).length = 1 := rfl
    rw [hpv, hln] at row
    rw [hln]
    have F0 := (Cl.new [.int .i64 0, .int .i64 0] 25 w).below k1
    have ka := ((Below.refl w1.heap.size w1).alloc (Nat.le_refl _) (.cells #[.int .i64 0, .int .i64 0] 25))
    have row2 : (w1.alloc (.cells #[.int .i64 0, .int .i64 0] 25)).ownsRow (w.alloc (.cells #[.int .i64 0, .int .i64 0] 25)).heap.size 66 2 (.slice a 1 c) 1 [.int .i64 5, .int .i64 1] := row.alloc _
    have F1 := F0.below ka
    have K1 : Below w.heap.size w (w1.alloc (.cells #[.int .i64 0, .int .i64 0] 25)) := (((Below.refl _ w).alloc (Nat.le_refl _) _).trans (k1.mono (by simp))).trans (ka.mono (by have := k1.size; simp at this; omega))
    have HRow : Hid ((w1.alloc (.cells #[.int .i64 0, .int .i64 0] 25)).ownsRow (w.alloc (.cells #[.int .i64 0, .int .i64 0] 25)).heap.size 66 2 (.slice a 1 c) 1 [.int .i64 5, .int .i64 1]) := row2
    have HF1 : Hid (Cl w.heap.size [.int .i64 0, .int .i64 0] 25 (w1.alloc (.cells #[.int .i64 0, .int .i64 0] 25))) := F1
    have HK1 : Hid (Below w.heap.size w (w1.alloc (.cells #[.int .i64 0, .int .i64 0] 25))) := K1
    clear row row2 F0 F1 K1 ka k1 hpv hln
    go_wp2_with fail
    generalize hW2 : (w1.alloc (.cells #[.int .i64 0, .int .i64 0] 25)) = W2 at HRow HF1 HK1 ⊢
    refine (product_five a c _ W2 HRow.out).mono ?_
    rintro e w3 ⟨rfl, k3⟩
    have F3 := HF1.out.below k3
    have f0 := F3.cell 0
    have f1 := F3.cell 1
    have f2 := F3.frozen 0
    have f3 := F3.frozen 1
    simp at f0 f1
    have HF3 : Hid (Cl w.heap.size [.int .i64 0, .int .i64 0] 25 w3) := F3
    have HK3 : Hid (Below w.heap.size w w3) := HK1.out.trans (k3.mono (by have := HF1.out.lt; omega))
    clear F3 k3
    go_wp2
    have Z := (HF3.out.set 0 (.int .i64 0)).set 1 (.int .i64 0)
    have z0 := Z.cell 0
    have z1 := Z.cell 1
    simp at z0 z1
    exact bodyPost_ret (v := .tuple #[.int .i64 (-1), .agg #[.int .i64 0, .int .i64 0]]) (by simp [results, Tryz.results131, go_sem, z0, z1]) rfl ⟨rfl, (HK3.out.setCell (Nat.le_refl _) _).setCell (Nat.le_refl _) _⟩
  go_enter Tryz.func70, Tryz.ntmps70
  go_wp2_with fail
  refine (HPO.out _).mono ?_
  rintro e w1 ⟨rfl, k1⟩
  have F0 := (Cl.new [.int .i64 0, .int .i64 0] 25 w).below k1
  have f0 := F0.cell 0
  have f1 := F0.cell 1
  have f2 := F0.frozen 0
  have f3 := F0.frozen 1
  simp at f0 f1
  have HF3 : Hid (Cl w.heap.size [.int .i64 0, .int .i64 0] 25 w1) := F0
  have HK3 : Hid (Below w.heap.size w w1) := ((Below.refl _ w).alloc (Nat.le_refl _) _).trans (k1.mono (by simp))
  clear F0 k1
  go_wp2
  have Z := (HF3.out.set 0 (.int .i64 0)).set 1 (.int .i64 0)
  have z0 := Z.cell 0
  have z1 := Z.cell 1
  simp at z0 z1
  exact bodyPost_ret (v := .tuple #[.int .i64 (-1), .agg #[.int .i64 0, .int .i64 0]]) (by simp [results, Tryz.results70, go_sem, z0, z1]) rfl ⟨rfl, (HK3.out.setCell (Nat.le_refl _) _).setCell (Nat.le_refl _) _⟩

theorem five_sq : Sq 5 2 1 2 (fun _ => (1, 2)) := ⟨⟨by decide, by decide, by decide, by decide, by decide, by decide, by decide, by decide, by decide⟩, fun _ => ⟨by decide, by decide, by decide, by decide, by decide, by decide, by decide, by decide, by decide⟩⟩

end Go.Proofs.YtfbgblidlabipaaGreatDoor
end

section
/- The program: cont.Unit(5); the document's examples of package cont. -/
set_option linter.unusedSimpArgs false
set_option linter.unusedVariables false
set_option maxRecDepth 100000
namespace Go.Proofs.YtfbgblidlabipaaGreatDoor
open Go.RowKit LgM CfM

theorem root_five {v f : Value} (h : RoOut 5 v f) : v = sgv 5 2 0 1 ∧ f = .agg #[.int .i64 0, .int .i64 0] := by
  rcases h with ⟨h, _⟩ | ⟨r, _, h, _⟩ | ⟨n, r, h1, _, h2, h3, h4⟩
  · omega
  · exfalso
    have h2 : r * r = 5 := by rw [← Int.natCast_mul] at h; omega
    rcases Nat.lt_or_ge r 3 with h3 | h3
    · have : r = 0 ∨ r = 1 ∨ r = 2 := by omega
      rcases this with rfl | rfl | rfl <;> omega
    · have := Nat.mul_le_mul h3 h3; omega
  · have hn : n = 5 := by omega
    subst hn
    have hr : r = 2 := by
      have a := h2.lo
      have b := h2.hi
      rcases Nat.lt_or_ge r 3 with h5 | h5
      · have : r = 0 ∨ r = 1 ∨ r = 2 := by omega
        rcases this with rfl | rfl | rfl <;> omega
      · have := Nat.mul_le_mul h5 h5; omega
    subst hr
    exact ⟨h3, h4⟩

set_option maxHeartbeats 4000000 in
theorem Unit_five (w : World) (hT : Tq w) :
    Calls Tryz.prog 15 #[.int .i64 5] w fun e w' => e = .returned (.tuple #[.string ⟨#[49]⟩, .string ⟨#[49]⟩, .int .i64 (-1), .agg #[.int .i64 0, .int .i64 0]]) ∧ Below w.heap.size w w' := by
  have HT : Hid (Tq w) := hT
  clear hT
  have HRo : Hid (∀ w, Calls Tryz.prog 69 #[.int .i64 5] w fun e w' => e = .returned (.tuple #[.agg #[.int .i64 5, .int .i64 2, .int .i64 0, .int .i64 1], .agg #[.int .i64 0, .int .i64 0]]) ∧ Below w.heap.size w w') := fun w => (rootOf_any 5 w).mono (by
    rintro e w' ⟨v, f, rfl, ho, k⟩
    obtain ⟨rfl, rfl⟩ := root_five ho
    exact ⟨rfl, k⟩)
  have HCy : Hid (∀ w, Calls Tryz.prog 71 #[.agg #[.int .i64 5, .int .i64 2, .int .i64 1, .int .i64 2]] w (CyPost 2 (fun _ => (1, 2)) 1 w)) := fun w => cycle_any 5 2 1 2 1 (fun _ => (1, 2)) five_sq true (by decide) (by decide) (fun _ => rfl) (fun i h => by omega) (fun h => by cases h) (fun h => by cases h) w
  have HF0 : Hid (Cl w.heap.size [.int .i64 0, .int .i64 0] 25 (w.alloc (.cells #[.int .i64 0, .int .i64 0] 25))) := Cl.new [.int .i64 0, .int .i64 0] _ w
  go_enter Tryz.func15, Tryz.ntmps15
  go_wp2_with fail
  refine (HRo.out _).mono ?_
  rintro e w1 ⟨rfl, k1⟩
  have F1 := HF0.out.below k1
  have K1 : Below w.heap.size w w1 := ((Below.refl _ w).alloc (Nat.le_refl _) _).trans (k1.mono (by simp))
  have e0 : ∀ x : Obj, (w1.alloc x).cell? ⟨w.heap.size, 0, none⟩ = some (.int .i64 0) := fun x => (F1.alloc x).cell 0
  have e1 : ∀ x : Obj, (w1.alloc x).cell? ⟨w.heap.size, 1, none⟩ = some (.int .i64 0) := fun x => (F1.alloc x).cell 1
  have g0 : ∀ x : Obj, (w1.alloc x).frozen? ⟨w.heap.size, 0, none⟩ = false := fun x => (F1.alloc x).frozen 0
  have g1 : ∀ x : Obj, (w1.alloc x).frozen? ⟨w.heap.size, 1, none⟩ = false := fun x => (F1.alloc x).frozen 1
  have M0 : Pm w.heap.size w1.heap.size 5 2 0 1 0 0 w (((w1.alloc (.cells #[.int .i64 5, .int .i64 2, .int .i64 0, .int .i64 1] 110)).setCell ⟨w.heap.size, 0, none⟩ (.int .i64 0)).setCell ⟨w.heap.size, 1, none⟩ (.int .i64 0)) := pm_root F1 K1 5 2 0 1 0 0
  have hne1 : w1.heap.size ≠ w.heap.size := by have := M0.h5; omega
  have hne2 : w.heap.size ≠ w1.heap.size := by have := M0.h5; omega
  clear F1 K1 k1 HRo HF0
  go_wp2_with fail
  generalize hW2 : (((w1.alloc (.cells #[.int .i64 5, .int .i64 2, .int .i64 0, .int .i64 1] 110)).setCell ⟨w.heap.size, 0, none⟩ (.int .i64 0)).setCell ⟨w.heap.size, 1, none⟩ (.int .i64 0)) = W2 at M0 ⊢
  clear hW2 e0 e1 g0 g1
  refine (Moebius_five W2).mono ?_
  rintro e w3 ⟨rfl, k3⟩
  have M3 := M0.below k3
  have ka := ((Below.refl w3.heap.size w3).alloc (Nat.le_refl _) (.cells #[.int .i64 0, .int .i64 0] 25))
  have M4 := M3.below ka
  have s2 : ∀ x : Obj, (w3.alloc x).cell? ⟨w1.heap.size, 2, none⟩ = some (.int .i64 0) := fun x => (M3.s.alloc x).cell 2
  have s3 : ∀ x : Obj, (w3.alloc x).cell? ⟨w1.heap.size, 3, none⟩ = some (.int .i64 1) := fun x => (M3.s.alloc x).cell 3
  have s0 : ∀ x : Obj, (w3.alloc x).cell? ⟨w1.heap.size, 0, none⟩ = some (.int .i64 5) := fun x => (M3.s.alloc x).cell 0
  have s1 : ∀ x : Obj, (w3.alloc x).cell? ⟨w1.heap.size, 1, none⟩ = some (.int .i64 2) := fun x => (M3.s.alloc x).cell 1
  have t2 : ∀ x : Obj, (w3.alloc x).frozen? ⟨w1.heap.size, 2, none⟩ = false := fun x => (M3.s.alloc x).frozen 2
  have t3 : ∀ x : Obj, (w3.alloc x).frozen? ⟨w1.heap.size, 3, none⟩ = false := fun x => (M3.s.alloc x).frozen 3
  have M5 : Pm w.heap.size w1.heap.size 5 2 1 2 0 0 w (((w3.alloc (.cells #[.int .i64 0, .int .i64 0] 25)).setCell ⟨w1.heap.size, 2, none⟩ (.int .i64 1)).setCell ⟨w1.heap.size, 3, none⟩ (.int .i64 2)) :=
    ⟨(M4.f.other (by simp; omega) _).other (by simp; omega) _, (M4.s.set 2 (.int .i64 1)).set 3 (.int .i64 2), (M4.k.setCell (by have := M4.h5; simp; omega) _).setCell (by have := M4.h5; simp; omega) _, M4.h5⟩
  have HM5 : Hid (Pm w.heap.size w1.heap.size 5 2 1 2 0 0 w (((w3.alloc (.cells #[.int .i64 0, .int .i64 0] 25)).setCell ⟨w1.heap.size, 2, none⟩ (.int .i64 1)).setCell ⟨w1.heap.size, 3, none⟩ (.int .i64 2))) := M5
  clear M0 M3 M4 M5 ka k3
  go_wp2_with fail
  generalize hW5 : (((w3.alloc (.cells #[.int .i64 0, .int .i64 0] 25)).setCell ⟨w1.heap.size, 2, none⟩ (.int .i64 1)).setCell ⟨w1.heap.size, 3, none⟩ (.int .i64 2)) = W5 at HM5 ⊢
  clear hW5 s0 s1 s2 s3 t2 t3
  refine (HCy.out W5).mono ?_
  rintro e w6 ⟨k6, ⟨_, a, c, rfl, hrow⟩ | ⟨h, _⟩⟩
  · have M6 := HM5.out.below k6
    have f0 := M6.f.cell 0
    have f1 := M6.f.cell 1
    have f2 := M6.f.frozen 0
    have f3 := M6.f.frozen 1
    simp at f0 f1
    have u0 : w6.cell? ⟨w1.heap.size, 0, none⟩ = some (.int .i64 5) := M6.s.cell 0
    have u1 : w6.cell? ⟨w1.heap.size, 1, none⟩ = some (.int .i64 2) := M6.s.cell 1
    have u2 : w6.cell? ⟨w1.heap.size, 2, none⟩ = some (.int .i64 1) := M6.s.cell 2
    have u3 : w6.cell? ⟨w1.heap.size, 3, none⟩ = some (.int .i64 2) := M6.s.cell 3
    have M7 : Pm w.heap.size w1.heap.size 5 2 1 2 0 0 w ((w6.setCell ⟨w.heap.size, 0, none⟩ (.int .i64 0)).setCell ⟨w.heap.size, 1, none⟩ (.int .i64 0)) :=
      ⟨(M6.f.set 0 _).set 1 _, (M6.s.other (by simp; omega) _).other (by simp; omega) _, (M6.k.setCell (Nat.le_refl _) _).setCell (Nat.le_refl _) _, M6.h5⟩
    have hl : w.heap.size < W5.heap.size := HM5.out.f.lt
    have hcap := ownsRow_cap hrow
    have his : IS ((w6.setCell ⟨w.heap.size, 0, none⟩ (.int .i64 0)).setCell ⟨w.heap.size, 1, none⟩ (.int .i64 0)) (.slice a 1 c) (nz [1]) := by
      have := IS.ownL (by rw [nz_len, kl_len]) (ownsRow_setCell_below (ownsRow_setCell_below hrow (show w.heap.size < _ from hl) (.int .i64 0) (a := ⟨w.heap.size, 0, none⟩)) (show w.heap.size < _ from hl) (.int .i64 0) (a := ⟨w.heap.size, 1, none⟩))
      exact this
    have HM7 : Hid (Pm w.heap.size w1.heap.size 5 2 1 2 0 0 w ((w6.setCell ⟨w.heap.size, 0, none⟩ (.int .i64 0)).setCell ⟨w.heap.size, 1, none⟩ (.int .i64 0))) := M7
    have HI7 : Hid (IS ((w6.setCell ⟨w.heap.size, 0, none⟩ (.int .i64 0)).setCell ⟨w.heap.size, 1, none⟩ (.int .i64 0)) (.slice a 1 c) (nz [1])) := his
    clear M6 M7 his hrow k6 HCy
    go_wp2_with fail
    generalize hW7 : ((w6.setCell ⟨w.heap.size, 0, none⟩ (.int .i64 0)).setCell ⟨w.heap.size, 1, none⟩ (.int .i64 0)) = W7 at HM7 HI7 ⊢
    clear hW7 u0 u1 u2 u3 f0 f1 f2 f3
    refine (climb_any 5 2 1 2 1 2 2 [1] (.slice a 1 c) W7 (fun a' k' c' h => by simp only [Value.slice.injEq] at h; omega) five_sq.first (by decide) (by decide) HI7.out (by decide) (by decide) (fun i => by rcases i with _ | i <;> simp)).mono ?_
    rintro e w8 ⟨vx, vy, rfl, lx, ly, k8⟩
    have lx : LN w8 vx 1 := lx
    have ly : LN w8 vy 1 := ly
    obtain ⟨ax, nx, cx, rfl⟩ := lx.slice
    obtain ⟨ay, ny, cy, rfl⟩ := ly.slice
    have M8 := HM7.out.below k8
    have ka := ((Below.refl w8.heap.size w8).alloc (Nat.le_refl _) (.cells #[.slice ax nx cx, .slice ay ny cy] 120))
    have C5 := Cl.new [.slice ax nx cx, .slice ay ny cy] 120 w8
    have M9 := M8.below ka
    have lx := lx.below ka
    have ly := ly.below ka
    clear k8 M8
    go_wp2
    generalize hW6 : w8.alloc (.cells #[.slice ax nx cx, .slice ay ny cy] 120) = W9 at C5 M9 lx ly ka ⊢
    generalize hB6 : w8.heap.size = B6 at C5 ⊢
    clear hW6 hB6 ka
    have y0 := C5.cell 0
    have y1 := C5.cell 1
    simp at y0 y1
    have HTX : Hid (Tq W9) := HT.out.below M9.k
    refine wp_region_G (fun w' => w'.cell? ⟨B6, 0, none⟩ = some (.slice ax nx cx) ∧ w'.cell? ⟨B6, 1, none⟩ = some (.slice ay ny cy)) 12 (by kernel_rfl) ⟨y0, y1⟩ (fun hHeld => ?_)
    refine wpAnyG_take (i := 0) (v := ?v0x1) rfl (by kernel_rfl) (fun _ _ _ h => h) (Or.inl ⟨by rfl, ?y0x1⟩) hHeld ?r0x1
    case y0x1 => (intro wS hSw; obtain ⟨t1, t2⟩ := hSw; go_simp; try with_reducible rfl)
    try simp only [Act.put, List.setIfInBounds_toArray, List.set_cons_zero, List.set_cons_succ]
    refine wpAnyG_take (i := 1) (v := ?v1x2) rfl (by kernel_rfl) (fun _ _ _ h => h) (Or.inl ⟨by rfl, ?y1x2⟩) hHeld ?r1x2
    case y1x2 => (intro wS hSw; obtain ⟨t1, t2⟩ := hSw; go_simp; try with_reducible rfl)
    try simp only [Act.put, List.setIfInBounds_toArray, List.set_cons_zero, List.set_cons_succ]
    refine wpAnyG_take (i := 3) (v := ?v3x3) rfl (by kernel_rfl) (fun _ _ _ h => h) (Or.inl ⟨by rfl, ?y3x3⟩) hHeld ?r3x3
    case y3x3 => (intro wS hSw; obtain ⟨t1, t2⟩ := hSw; go_simp; try with_reducible rfl)
    try simp only [Act.put, List.setIfInBounds_toArray, List.set_cons_zero, List.set_cons_succ]
    refine wpAnyG_take (i := 4) (v := ?v4x4) rfl (by kernel_rfl) (fun _ _ _ h => h) (Or.inl ⟨by rfl, ?y4x4⟩) hHeld ?r4x4
    case y4x4 => (intro wS hSw; obtain ⟨t1, t2⟩ := hSw; go_simp; try with_reducible rfl)
    try simp only [Act.put, List.setIfInBounds_toArray, List.set_cons_zero, List.set_cons_succ]
    refine wpAnyG_take (i := 6) (v := ?v6x5) rfl (by kernel_rfl) (fun _ _ _ h => h) (Or.inl ⟨by rfl, ?y6x5⟩) hHeld ?r6x5
    case y6x5 => (intro wS hSw; obtain ⟨t1, t2⟩ := hSw; go_simp; try with_reducible rfl)
    try simp only [Act.put, List.setIfInBounds_toArray, List.set_cons_zero, List.set_cons_succ]
    refine wpAnyG_take (i := 8) (v := ?v8x6) rfl (by kernel_rfl) (fun _ _ _ h => h) (Or.inl ⟨by rfl, ?y8x6⟩) hHeld ?r8x6
    case y8x6 => (intro wS hSw; obtain ⟨t1, t2⟩ := hSw; go_simp; try with_reducible rfl)
    try simp only [Act.put, List.setIfInBounds_toArray, List.set_cons_zero, List.set_cons_succ]
    refine wpAnyG_one (i := 2) rfl (by kernel_rfl) (fun K hK => ?_)
    go_simp
    have kd : Below W9.heap.size W9 W9.drew := (Below.refl _ _).drew
    refine (String_any _ 1 1 _ (lx.below kd) (by decide) (by omega) (by omega) (HTX.out.below kd)).mono ?_
    rintro e wa ⟨rfl, k7⟩
    have k67 : Below W9.heap.size W9 wa := kd.trans k7
    have C7 := C5.below k67
    have y2 := C7.cell 0
    have y3 := C7.cell 1
    simp at y2 y3
    refine hK.out _ _ ⟨y2, y3⟩ ?_
    clear hK K
    try simp only [Act.put, List.setIfInBounds_toArray, List.set_cons_zero, List.set_cons_succ]
    clear hHeld
    have hHeld : wa.cell? ⟨B6, 0, none⟩ = some (.slice ax nx cx) ∧ wa.cell? ⟨B6, 1, none⟩ = some (.slice ay ny cy) := ⟨y2, y3⟩
    refine wpAnyG_one (i := 5) rfl (by kernel_rfl) (fun K hK => ?_)
    go_simp
    refine (String_any _ 1 1 _ (ly.below k67) (by decide) (by omega) (by omega) (HTX.out.below k67)).mono ?_
    rintro e wb ⟨rfl, k8⟩
    have k68 : Below W9.heap.size W9 wb := k67.trans (k8.mono k67.size)
    have C8 := C5.below k68
    have M8 := M9.below k68
    have y4 := C8.cell 0
    have y5 := C8.cell 1
    simp at y4 y5
    refine hK.out _ _ ⟨y4, y5⟩ ?_
    clear hK K
    try simp only [Act.put, List.setIfInBounds_toArray, List.set_cons_zero, List.set_cons_succ]
    clear hHeld
    have hHeld : wb.cell? ⟨B6, 0, none⟩ = some (.slice ax nx cx) ∧ wb.cell? ⟨B6, 1, none⟩ = some (.slice ay ny cy) := ⟨y4, y5⟩
    refine wpAnyG_one (i := 7) rfl (by kernel_rfl) (fun K hK => ?_)
    go_simp
    refine (normAfter_any a 1 c wb (by omega)).mono ?_
    rintro e wc ⟨rfl, hwc⟩
    rw [hwc]
    clear hwc wc
    refine hK.out _ _ hHeld ?_
    clear hK K
    try simp only [Act.put, List.setIfInBounds_toArray, List.set_cons_zero, List.set_cons_succ]
    have f0 := M8.f.cell 0
    have f1 := M8.f.cell 1
    have f2 := M8.f.frozen 0
    have f3 := M8.f.frozen 1
    simp at f0 f1
    refine wpAnyG_one (i := 9) rfl (by kernel_rfl) (fun K hK => ?_)
    go_simp
    refine hK.out _ _ hHeld ?_
    clear hK K
    try simp only [Act.put, List.setIfInBounds_toArray, List.set_cons_zero, List.set_cons_succ]
    refine wpAnyG_one (i := 10) rfl (by kernel_rfl) (fun K hK => ?_)
    go_simp
    refine hK.out _ _ hHeld ?_
    clear hK K
    try simp only [Act.put, List.setIfInBounds_toArray, List.set_cons_zero, List.set_cons_succ]
    refine wpAnyG_one (i := 11) rfl (by kernel_rfl) (fun K hK => ?_)
    go_simp
    refine hK.out _ _ hHeld ?_
    clear hK K
    try simp only [Act.put, List.setIfInBounds_toArray, List.set_cons_zero, List.set_cons_succ]
    refine wpAnyG_last (i := 12) rfl (by kernel_rfl) (by kernel_rfl) (fun K hK => ?_)
    go_simp
    refine hK.out _ _ ?_
    clear hK K
    try simp only [Act.put, List.setIfInBounds_toArray, List.set_cons_zero, List.set_cons_succ]
    refine wpAnyG_done (by kernel_rfl) ?_ _
    have Z := (M8.f.set 0 (.int .i64 0)).set 1 (.int .i64 0)
    have KF := (M8.k.setCell (p := ⟨w.heap.size, 0, none⟩) (Nat.le_refl _) (.int .i64 0)).setCell (p := ⟨w.heap.size, 1, none⟩) (Nat.le_refl _) (.int .i64 0)
    have z0 := Z.cell 0
    have z1 := Z.cell 1
    simp at z0 z1
    generalize hWF : ((wb.setCell ⟨w.heap.size, 0, none⟩ (.int .i64 0)).setCell ⟨w.heap.size, 1, none⟩ (.int .i64 0)) = WF at z0 z1 KF ⊢
    have HKF : Hid (Below w.heap.size w WF) := KF
    have hsg : CfM.sgn 1 = -1 := by decide
    have hdd : Lib.decDigits 1 = [49] := dec_lt (by decide)
    rw [hsg, hdd]
    clear Z KF hWF M8 M9 C8 C7 C5 lx ly k67 k68 k7 k8 kd hHeld y0 y1 y2 y3 y4 y5 f0 f1 f2 f3
    go_wp2
    exact bodyPost_ret (v := .tuple #[.string ⟨#[49]⟩, .string ⟨#[49]⟩, .int .i64 (-1), .agg #[.int .i64 0, .int .i64 0]]) (by simp [results, Tryz.results15, go_sem, z0, z1]) rfl ⟨rfl, HKF.out⟩
  · omega

end Go.Proofs.YtfbgblidlabipaaGreatDoor
end

section
/- The document's examples of package cont. -/
set_option linter.unusedSimpArgs false
set_option linter.unusedVariables false
set_option maxRecDepth 100000
namespace Go.Proofs.YtfbgblidlabipaaGreatDoor
open Go.RowKit LgM CfM

theorem dec_61x : Lib.decDigits 1766319049 = [49, 55, 54, 54, 51, 49, 57, 48, 52, 57] := by simp [dec_ge, dec_lt]
theorem dec_61y : Lib.decDigits 226153980 = [50, 50, 54, 49, 53, 51, 57, 56, 48] := by simp [dec_ge, dec_lt]
theorem cs_61 : (cs 61 7 10).2 = 1 ∧ ∀ i, i < 10 → (cs 61 7 i).2 ≠ 1 := by decide +kernel
theorem st_61 : (st 61 7 21).2 = (1766319049, 226153980) := by decide +kernel
theorem fst_uniq {n r N M : Nat} (h : Fst n r N) (k : Fst n r M) : N = M := by
  obtain ⟨h1, h2, h3, h4⟩ := h
  obtain ⟨k1, k2, k3, k4⟩ := k
  rcases Nat.lt_trichotomy N M with g | g | g
  · exact absurd h3 (k4 (N - 1) (by omega))
  · exact g
  · exact absurd k3 (h4 (M - 1) (by omega))
theorem rn_uniq {n r s : Nat} (h : Rn n r) (k : Rn n s) : r = s := by
  have a := h.lo; have b := h.hi; have c := k.lo; have d := k.hi
  rcases Nat.lt_trichotomy r s with g | g | g
  · have := Nat.mul_le_mul (show r + 1 ≤ s by omega) (show r + 1 ≤ s by omega); omega
  · exact g
  · have := Nat.mul_le_mul (show s + 1 ≤ r by omega) (show s + 1 ≤ r by omega); omega
theorem rn_61 : Rn 61 7 := ⟨by decide, by decide, by decide⟩
theorem fst_61 : Fst 61 7 11 := ⟨by decide, by decide, cs_61.1, cs_61.2⟩
theorem rn_nosq {n r s : Nat} (h : Rn n r) : s * s ≠ n := by
  intro e
  have a := h.lo; have b := h.hi
  rcases Nat.lt_or_ge r s with g | g
  · have := Nat.mul_le_mul (show r + 1 ≤ s by omega) (show r + 1 ≤ s by omega); omega
  · have := Nat.mul_le_mul g g; omega
theorem pell_61 {e : Ending} (h : PeOut 61 e) : e = .returned (.tuple #[.string ⟨#[49, 55, 54, 54, 51, 49, 57, 48, 52, 57]⟩, .string ⟨#[50, 50, 54, 49, 53, 51, 57, 56, 48]⟩, .agg #[.int .i64 0, .int .i64 0]]) := by
  rcases h with ⟨h, _⟩ | ⟨⟨r, _, h⟩, _⟩ | ⟨n, r, h1, _, h2, h3⟩
  · omega
  · exact absurd (show r * r = 61 by rw [← Int.natCast_mul] at h; omega) (rn_nosq rn_61)
  · have hn : n = 61 := by omega
    subst hn
    obtain rfl := rn_uniq h2 rn_61
    rcases h3 with ⟨h3, _⟩ | ⟨N, h3, h4⟩
    · exact absurd cs_61.1 (h3 10 (by decide))
    · obtain rfl := fst_uniq h3 fst_61
      rw [h4, show NN 11 - 1 = 21 from rfl, st_61, dec_61x, dec_61y]

set_option maxHeartbeats 2000000 in
theorem contBegun_any (w : World) (hT : Tq w) :
    Calls Tryz.prog 12 #[] w fun e w' => e = .returned (.bool true) ∧ Below w.heap.size w w' := by
  have HPe : Hid (∀ w, Tq w → Calls Tryz.prog 60 #[.int .i64 61] w fun e w' => e = .returned (.tuple #[.string ⟨#[49, 55, 54, 54, 51, 49, 57, 48, 52, 57]⟩, .string ⟨#[50, 50, 54, 49, 53, 51, 57, 56, 48]⟩, .agg #[.int .i64 0, .int .i64 0]]) ∧ Below w.heap.size w w') := fun w h => (Pell_any 61 w h).mono fun e w' h => ⟨pell_61 h.1, h.2⟩
  have HT : Hid (Tq w) := hT
  clear hT
  go_enter Tryz.func12, Tryz.ntmps12
  go_wp2_with fail
  refine (HPe.out _ HT.out).mono ?_
  rintro e w1 ⟨rfl, k1⟩
  have ka := ((Below.refl w1.heap.size w1).alloc (Nat.le_refl _) (.cells #[.int .i64 0, .int .i64 0] 25))
  have F1 := Cl.new [.int .i64 0, .int .i64 0] 25 w1
  have K2 : Below w.heap.size w (w1.alloc (.cells #[.int .i64 0, .int .i64 0] 25)) := k1.trans (ka.mono k1.size)
  have HK2 : Hid (Below w.heap.size w (w1.alloc (.cells #[.int .i64 0, .int .i64 0] 25))) := K2
  have HF1 : Hid (Cl w1.heap.size [.int .i64 0, .int .i64 0] 25 (w1.alloc (.cells #[.int .i64 0, .int .i64 0] 25))) := F1
  clear k1 ka F1 K2
  go_wp2_with fail
  generalize hW2 : (w1.alloc (.cells #[.int .i64 0, .int .i64 0] 25)) = W2 at HK2 HF1 ⊢
  refine (Unit_five W2 (HT.out.below HK2.out)).mono ?_
  rintro e w3 ⟨rfl, k3⟩
  have F3 := HF1.out.below k3
  have f0 : ∀ x : Obj, (w3.alloc x).cell? ⟨w1.heap.size, 0, none⟩ = some (.int .i64 0) := fun x => (F3.alloc x).cell 0
  have HK3 : Hid (Below w.heap.size w w3) := HK2.out.trans (k3.mono HK2.out.size)
  clear k3 F3 hW2
  go_wp2
  go_ret
  exact ⟨rfl, HK3.out.alloc HK3.out.size _⟩

end Go.Proofs.YtfbgblidlabipaaGreatDoor
end

section
/- ContSurds: the ways with a fault. -/
set_option linter.unusedSimpArgs false
set_option linter.unusedVariables false
set_option maxRecDepth 100000
namespace Go.Proofs.YtfbgblidlabipaaGreatDoor
open Go.RowKit LgM CfM

/-- Boxes of two numbers that stand, and the table. -/
structure Bx (w W : World) (L : List (Nat × List Value)) : Prop where
  k : Below w.heap.size w W
  t0 : Tq w
  cl : ∀ b l, (b, l) ∈ L → Cl b l 25 W
theorem Bx.t {w W : World} {L : List (Nat × List Value)} (h : Bx w W L) : Tq W := h.t0.below h.k
theorem Bx.go {w W V : World} {L : List (Nat × List Value)} (h : Bx w W L) (k : Below W.heap.size W V) : Bx w V L :=
  ⟨h.k.trans (k.mono h.k.size), h.t0, fun b l hb => (h.cl b l hb).below k⟩
theorem Bx.box {w W : World} {L : List (Nat × List Value)} (h : Bx w W L) (x y : Value) : Bx w (W.alloc (.cells #[x, y] 25)) ((W.heap.size, [x, y]) :: L) := by
  have k := h.go (Below.alloc_self' W (.cells #[x, y] 25))
  refine ⟨k.k, k.t0, fun b l hb => ?_⟩
  rcases List.mem_cons.1 hb with e | e
  · simp only [Prod.mk.injEq] at e
    obtain ⟨rfl, rfl⟩ := e
    exact Cl.new [x, y] _ W
  · exact k.cl b l e
theorem Bx.one {w w1 : World} (hT : Tq w) (k : Below w.heap.size w w1) (x y : Value) : Bx w (w1.alloc (.cells #[x, y] 25)) [(w1.heap.size, [x, y])] :=
  (Bx.box (L := []) ⟨k, hT, fun _ _ h => by cases h⟩ x y)
theorem Bx.set {w W : World} {b : Nat} {x y u v : Value} {L : List (Nat × List Value)} (h : Bx w W ((b, [x, y]) :: L)) (hb : w.heap.size ≤ b) (hL : ∀ p ∈ L, p.1 ≠ b) : Bx w ((W.setCell ⟨b, 0, none⟩ u).setCell ⟨b, 1, none⟩ v) ((b, [u, v]) :: L) := by
  refine ⟨(h.k.setCell (p := ⟨b, 0, none⟩) hb u).setCell (p := ⟨b, 1, none⟩) hb v, h.t0, fun c l hc => ?_⟩
  rcases List.mem_cons.1 hc with e | e
  · simp only [Prod.mk.injEq] at e
    obtain ⟨rfl, rfl⟩ := e
    exact ((h.cl c [x, y] (by simp)).set 0 u).set 1 v
  · have hne : c ≠ b := hL (c, l) e
    exact ((h.cl c l (List.mem_cons_of_mem _ e)).other (p := ⟨b, 0, none⟩) hne u).other (p := ⟨b, 1, none⟩) hne v

theorem sq_uniq {n r s : Nat} (h : Rn n r) (k : (s : Int) * s = (n : Int)) : False := rn_nosq h (s := s) (by rw [← Int.natCast_mul] at k; omega)

end Go.Proofs.YtfbgblidlabipaaGreatDoor
end
