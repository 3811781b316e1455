/- Package gauss's own product, mirror and chief; package bound's pairs. -/
import Derived.Test.YtogdggdaaiajnadGreatDoorRefV
import Derived.Test.YtogdggdaaiajnadGreatDoorRefS
set_option linter.unusedSimpArgs false
set_option linter.unusedVariables false
set_option maxRecDepth 100000
namespace Go.Proofs.YtogdggdaaiajnadGreatDoor
open Go.RowKit

/-- The six numbers of a product that must not be too large. -/
structure Mb (x y : Pp) : Prop where
  h1 : -2000000000000000000 ≤ x.a * y.a ∧ x.a * y.a ≤ 2000000000000000000
  h2 : -2000000000000000000 ≤ x.b * y.b ∧ x.b * y.b ≤ 2000000000000000000
  h3 : -2000000000000000000 ≤ x.a * y.b ∧ x.a * y.b ≤ 2000000000000000000
  h4 : -2000000000000000000 ≤ x.b * y.a ∧ x.b * y.a ≤ 2000000000000000000

theorem Mb.of {M N : Int} {x y : Pp} (hx : Bd M x) (hy : Bd N y) (h : M * N ≤ 2000000000000000000) : Mb x y := by
  have m1 := mul_bd hx.a1 hx.a2 hy.a1 hy.a2
  have m2 := mul_bd hx.b1 hx.b2 hy.b1 hy.b2
  have m3 := mul_bd hx.a1 hx.a2 hy.b1 hy.b2
  have m4 := mul_bd hx.b1 hx.b2 hy.a1 hy.a2
  exact ⟨⟨by omega, by omega⟩, ⟨by omega, by omega⟩, ⟨by omega, by omega⟩, ⟨by omega, by omega⟩⟩

set_option maxHeartbeats 400000 in
theorem gtimes_any (x y : Pp) (w : World) (h : Mb x y) :
    Calls Tryz.prog 49 #[pv x, pv y] w fun e w' => e = .returned (pv (x.mul 0 y)) ∧ Below w.heap.size w w' := by
  obtain ⟨h1, h2, h3, h4⟩ := h
  go_enter Tryz.func49, Tryz.ntmps49
  go_wp2
  refine bodyPost_ret (v := pv (x.mul 0 y)) (by simp [results, Tryz.results49, go_sem, Pp.mul]) rfl ⟨rfl, ?_⟩
  exact below3 _ _ _ _

theorem gmirror_any (x : Pp) (w : World) (h : Bd 4000000000000000000 x) :
    Calls Tryz.prog 50 #[pv x] w fun e w' => e = .returned (pv (x.conj 0)) ∧ Below w.heap.size w w' := by
  obtain ⟨h1, h2, h3, h4⟩ := h
  go_enter Tryz.func50, Tryz.ntmps50
  go_wp2
  refine bodyPost_ret (v := pv (x.conj 0)) (by simp [results, Tryz.results50, go_sem, Pp.conj]) rfl ⟨rfl, ?_⟩
  exact below2 _ _ _

theorem gchief_any (x : Pp) (w : World) :
    Calls Tryz.prog 51 #[pv x] w fun e w' => e = .returned (.bool (decide (IsCh 0 x))) ∧ Below w.heap.size w w' := by
  rw [ischief_zero]
  obtain ⟨p, hp⟩ : ∃ p, decide (0 < x.a) = p := ⟨_, rfl⟩
  obtain ⟨q, hq⟩ : ∃ q, decide (0 ≤ x.b) = q := ⟨_, rfl⟩
  rw [hp, hq]
  cases p
  all_goals
    go_enter Tryz.func51, Tryz.ntmps51
    go_wp2
    go_ret
    exact ⟨rfl, Below.alloc (Below.refl _ _) (Nat.le_refl _) _⟩

theorem isPart_any (a : Int) (w : World) : Calls Tryz.prog 88 #[.int .i64 a] w fun e w' => e = .returned (.bool (decide (-500000000 ≤ a) && decide (a ≤ 500000000))) ∧ w' = w := by
  obtain ⟨p, hp⟩ : ∃ p, decide (-500000000 ≤ a) = p := ⟨_, rfl⟩
  obtain ⟨q, hq⟩ : ∃ q, decide (a ≤ 500000000) = q := ⟨_, rfl⟩
  rw [hp, hq]
  cases p
  all_goals
    go_enter Tryz.func88, Tryz.ntmps88
    go_wp2
    go_ret
    exact ⟨rfl, rfl⟩

theorem okP_parts (x : Pp) : okP x = ((decide (-500000000 ≤ x.a) && decide (x.a ≤ 500000000)) && (decide (-500000000 ≤ x.b) && decide (x.b ≤ 500000000))) := by
  unfold okP
  rw [Bool.eq_iff_iff]
  simp
  omega

theorem IsPair_any (x : Pp) (w : World) : Calls Tryz.prog 64 #[pv x] w fun e w' => e = .returned (.bool (okP x)) ∧ Below w.heap.size w w' := by
  rw [okP_parts]
  have HA : Hid (∀ w, Calls Tryz.prog 88 #[.int .i64 x.a] w fun e w' => e = .returned (.bool (decide (-500000000 ≤ x.a) && decide (x.a ≤ 500000000))) ∧ w' = w) := fun w => isPart_any x.a w
  have HB : Hid (∀ w, Calls Tryz.prog 88 #[.int .i64 x.b] w fun e w' => e = .returned (.bool (decide (-500000000 ≤ x.b) && decide (x.b ≤ 500000000))) ∧ w' = w) := fun w => isPart_any x.b w
  obtain ⟨p, hp⟩ : ∃ p, (decide (-500000000 ≤ x.a) && decide (x.a ≤ 500000000)) = p := ⟨_, rfl⟩
  obtain ⟨q, hq⟩ : ∃ q, (decide (-500000000 ≤ x.b) && decide (x.b ≤ 500000000)) = q := ⟨_, rfl⟩
  rw [hp] at HA ⊢
  rw [hq] at HB ⊢
  clear hp hq
  cases p
  · go_enter Tryz.func64, Tryz.ntmps64
    go_wp2_with fail
    refine (HA.out _).mono ?_
    rintro e w1 ⟨rfl, rfl⟩
    go_wp2
    go_ret
    exact ⟨rfl, Below.alloc (Below.refl _ _) (Nat.le_refl _) _⟩
  · go_enter Tryz.func64, Tryz.ntmps64
    go_wp2_with fail
    refine (HA.out _).mono ?_
    rintro e w1 ⟨rfl, rfl⟩
    go_wp2_with fail
    refine (HB.out _).mono ?_
    rintro e w1 ⟨rfl, rfl⟩
    go_wp2
    go_ret
    exact ⟨rfl, Below.alloc (Below.refl _ _) (Nat.le_refl _) _⟩

theorem isZero_any (x : Pp) (w : World) : Calls Tryz.prog 57 #[pv x] w fun e w' => e = .returned (.bool (decide (x = Pp.zero))) ∧ Below w.heap.size w w' := by
  have hx : decide (x = Pp.zero) = ((x.a == 0) && (x.b == 0)) := by
    rw [Bool.eq_iff_iff]
    simp
    exact ⟨fun h => by subst h; exact ⟨rfl, rfl⟩, fun h => Pp.ext' h.1 h.2⟩
  rw [hx]
  clear hx
  obtain ⟨p, hp⟩ : ∃ p, (x.a == 0) = p := ⟨_, rfl⟩
  obtain ⟨q, hq⟩ : ∃ q, (x.b == 0) = q := ⟨_, rfl⟩
  rw [hp, hq]
  cases p <;> cases q
  all_goals
    go_enter Tryz.func57, Tryz.ntmps57
    go_wp2
    go_ret
    exact ⟨rfl, Below.alloc (Below.refl _ _) (Nat.le_refl _) _⟩

end Go.Proofs.YtogdggdaaiajnadGreatDoor
