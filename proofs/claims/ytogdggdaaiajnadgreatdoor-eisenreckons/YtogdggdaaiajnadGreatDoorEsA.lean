/- Package eisen's own product, mirror and chief; its ring. -/
import Derived.Test.YtogdggdaaiajnadGreatDoorGsC
set_option linter.unusedSimpArgs false
set_option linter.unusedVariables false
set_option maxRecDepth 100000
namespace Go.Proofs.YtogdggdaaiajnadGreatDoor
open Go.RowKit

theorem mul_w (x y : Pp) : x.mul (-1) y = ⟨x.a * y.a - x.b * y.b, x.a * y.b + x.b * y.a - x.b * y.b⟩ := by
  simp only [Pp.mul, Int.neg_mul, Int.one_mul, Int.sub_eq_add_neg]
theorem conj_w (x : Pp) : x.conj (-1) = ⟨x.a - x.b, -x.b⟩ := by
  simp only [Pp.conj, Int.neg_mul, Int.one_mul, Int.sub_eq_add_neg]

set_option maxHeartbeats 400000 in
theorem etimes_any (x y : Pp) (w : World) (h : Mb x y) :
    Calls Tryz.prog 60 #[pv x, pv y] w fun e w' => e = .returned (pv (x.mul (-1) y)) ∧ Below w.heap.size w w' := by
  obtain ⟨h1, h2, h3, h4⟩ := h
  rw [mul_w]
  go_enter Tryz.func60, Tryz.ntmps60
  go_wp2
  refine bodyPost_ret (v := pv ⟨x.a * y.a - x.b * y.b, x.a * y.b + x.b * y.a - x.b * y.b⟩) (by simp [results, Tryz.results60, go_sem]) rfl ⟨rfl, ?_⟩
  exact below3 _ _ _ _

theorem emirror_any (x : Pp) (w : World) (h : Bd 4000000000000000000 x) :
    Calls Tryz.prog 61 #[pv x] w fun e w' => e = .returned (pv (x.conj (-1))) ∧ Below w.heap.size w w' := by
  obtain ⟨h1, h2, h3, h4⟩ := h
  rw [conj_w]
  go_enter Tryz.func61, Tryz.ntmps61
  go_wp2
  refine bodyPost_ret (v := pv ⟨x.a - x.b, -x.b⟩) (by simp [results, Tryz.results61, go_sem]) rfl ⟨rfl, ?_⟩
  exact below2 _ _ _

theorem echief_any (x : Pp) (w : World) :
    Calls Tryz.prog 62 #[pv x] w fun e w' => e = .returned (.bool (decide (IsCh (-1) x))) ∧ Below w.heap.size w w' := by
  rw [ischief_one]
  obtain ⟨p, hp⟩ : ∃ p, decide (x.b < x.a) = p := ⟨_, rfl⟩
  obtain ⟨q, hq⟩ : ∃ q, decide (0 ≤ x.b) = q := ⟨_, rfl⟩
  rw [hp, hq]
  cases p
  all_goals
    go_enter Tryz.func62, Tryz.ntmps62
    go_wp2
    go_ret
    exact ⟨rfl, Below.alloc (Below.refl _ _) (Nat.le_refl _) _⟩

def ek : Kd := ⟨⟨1, 1⟩, 3, 60, 61, 62, 63⟩

theorem ek_numbers (w : World) :
    Calls Tryz.prog 37 #[] w fun e w' => e = .returned ek.v ∧ Below w.heap.size w w' := by
  go_enter Tryz.func37, Tryz.ntmps37
  go_wp2
  refine bodyPost_ret (v := ek.v) (by simp [results, Tryz.results37, go_sem, ek]) rfl ⟨rfl, ?_⟩
  exact Below.alloc (Below.refl _ _) (Nat.le_refl _) _

theorem ek_is : KdIs (-1) ek := ⟨fun x y w h => etimes_any x y w h, fun x w h => emirror_any x w (bd_mono h (by omega)), fun x w => echief_any x w, by decide, fun args w => by show (callFunc 60 args).run Tryz.prog w = .ok (.enter 60 args) w; go_simp, fun args w => by show (callFunc 61 args).run Tryz.prog w = .ok (.enter 61 args) w; go_simp, fun args w => by show (callFunc 62 args).run Tryz.prog w = .ok (.enter 62 args) w; go_simp⟩

end Go.Proofs.YtogdggdaaiajnadGreatDoor
