/- The program: curve.Check. -/
import Derived.Test.YtbeceimopamllaaDoorCuE
import Derived.Test.YtbeceimopamllaaDoorJnF
set_option linter.unusedSimpArgs false
set_option linter.unusedVariables false
set_option maxRecDepth 100000
namespace Go.Proofs.YtbeceimopamllaaDoor
open Go.RowKit EC

/-- What is told of a curve. -/
def Cf (p a b c d : Int) : Prop :=
  ((p < 5 ∨ 2000 < p) ∧ c = 3 ∧ d = 0) ∨
  (∃ P : Nat, p = P ∧ 5 ≤ P ∧ P ≤ 2000 ∧ ((¬ Pr P ∧ c = 7 ∧ d = 0) ∨ (Pr P ∧ (((a < 0 ∨ (P : Int) ≤ a) ∧ c = 3 ∧ d = 1) ∨ (0 ≤ a ∧ a < P ∧ (((b < 0 ∨ (P : Int) ≤ b) ∧ c = 3 ∧ d = 2) ∨
    (0 ≤ b ∧ b < P ∧ (((4 * a * a * a + 27 * b * b) % (P : Int) = 0 ∧ c = 6 ∧ d = 0) ∨ ((4 * a * a * a + 27 * b * b) % (P : Int) ≠ 0 ∧ c = 0 ∧ d = 0)))))))))

theorem cf_ex (p a b : Int) : ∃ c d, Cf p a b c d := by
  by_cases h1 : p < 5 ∨ 2000 < p
  · exact ⟨3, 0, .inl ⟨h1, rfl, rfl⟩⟩
  obtain ⟨P, rfl⟩ : ∃ P : Nat, p = P := ⟨p.toNat, by omega⟩
  by_cases h2 : Pr P
  · by_cases h3 : a < 0 ∨ (P : Int) ≤ a
    · exact ⟨3, 1, .inr ⟨P, rfl, by omega, by omega, .inr ⟨h2, .inl ⟨h3, rfl, rfl⟩⟩⟩⟩
    · by_cases h4 : b < 0 ∨ (P : Int) ≤ b
      · exact ⟨3, 2, .inr ⟨P, rfl, by omega, by omega, .inr ⟨h2, .inr ⟨by omega, by omega, .inl ⟨h4, rfl, rfl⟩⟩⟩⟩⟩
      · by_cases h5 : (4 * a * a * a + 27 * b * b) % (P : Int) = 0
        · exact ⟨6, 0, .inr ⟨P, rfl, by omega, by omega, .inr ⟨h2, .inr ⟨by omega, by omega, .inr ⟨by omega, by omega, .inl ⟨h5, rfl, rfl⟩⟩⟩⟩⟩⟩
        · exact ⟨0, 0, .inr ⟨P, rfl, by omega, by omega, .inr ⟨h2, .inr ⟨by omega, by omega, .inr ⟨by omega, by omega, .inr ⟨h5, rfl, rfl⟩⟩⟩⟩⟩⟩
  · exact ⟨7, 0, .inr ⟨P, rfl, by omega, by omega, .inl ⟨h2, rfl, rfl⟩⟩⟩

theorem Cf.good {p a b c d : Int} (h : Cf p a b c d) : (c = 0 ∧ d = 0 ∧ ∃ P : Nat, p = P ∧ Cv P a b) ∨ (c ≠ 0 ∧ 0 ≤ c ∧ c ≤ 9 ∧ 0 ≤ d ∧ d ≤ 2) := by
  rcases h with ⟨_, rfl, rfl⟩ | ⟨P, rfl, h5, h6, ⟨_, rfl, rfl⟩ | ⟨hp, ⟨_, rfl, rfl⟩ | ⟨a0, a1, ⟨_, rfl, rfl⟩ | ⟨b0, b1, ⟨_, rfl, rfl⟩ | ⟨hd, rfl, rfl⟩⟩⟩⟩⟩
  · right; omega
  · right; omega
  · right; omega
  · right; omega
  · right; omega
  · exact .inl ⟨rfl, rfl, P, rfl, ⟨hp, h5, h6, a0, a1, b0, b1, hd⟩⟩

/-- A curve's fault is told once. -/
theorem Cf.uniq {p a b c d c' d' : Int} (h : Cf p a b c d) (k : Cf p a b c' d') : c = c' ∧ d = d' := by
  rcases h with ⟨h1, rfl, rfl⟩ | ⟨P, rfl, h5, h6, h⟩
  · rcases k with ⟨_, rfl, rfl⟩ | ⟨Q, rfl, k5, k6, k⟩
    · exact ⟨rfl, rfl⟩
    · omega
  rcases k with ⟨k1, rfl, rfl⟩ | ⟨Q, e, k5, k6, k⟩
  · omega
  obtain rfl : P = Q := by omega
  rcases h with ⟨h1, rfl, rfl⟩ | ⟨hp, h⟩
  · rcases k with ⟨_, rfl, rfl⟩ | ⟨kp, _⟩
    · exact ⟨rfl, rfl⟩
    · exact absurd kp h1
  rcases k with ⟨k1, _⟩ | ⟨_, k⟩
  · exact absurd hp k1
  rcases h with ⟨h1, rfl, rfl⟩ | ⟨a0, a1, h⟩
  · rcases k with ⟨_, rfl, rfl⟩ | ⟨k0, k1, _⟩
    · exact ⟨rfl, rfl⟩
    · omega
  rcases k with ⟨k1, _⟩ | ⟨_, _, k⟩
  · omega
  rcases h with ⟨h1, rfl, rfl⟩ | ⟨b0, b1, h⟩
  · rcases k with ⟨_, rfl, rfl⟩ | ⟨k0, k1, _⟩
    · exact ⟨rfl, rfl⟩
    · omega
  rcases k with ⟨k1, _⟩ | ⟨_, _, k⟩
  · omega
  rcases h with ⟨h1, rfl, rfl⟩ | ⟨h1, rfl, rfl⟩
  · rcases k with ⟨_, rfl, rfl⟩ | ⟨k1, _⟩
    · exact ⟨rfl, rfl⟩
    · exact absurd h1 k1
  · rcases k with ⟨k1, _⟩ | ⟨_, rfl, rfl⟩
    · exact absurd k1 h1
    · exact ⟨rfl, rfl⟩

set_option maxHeartbeats 2000000 in
theorem cCheck_any (p a b c d : Int) (w : World) (h : Cf p a b c d) (hT : Tb w) :
    Calls Tryd.prog 7 #[.int .i64 p, .int .i64 a, .int .i64 b] w fun e w' => e = .returned (.agg #[.int .i64 c, .int .i64 d]) ∧ Below w.heap.size w w' := by
  rcases h with ⟨h1, rfl, rfl⟩ | ⟨P, rfl, h5, h6, h⟩
  · by_cases h2 : p < 5
    · have t1 : decide (p < 5) = true := decide_eq_true h2
      clear h1
      go_enter Tryd.func7, Tryd.ntmps7
      go_wp2
      exact bodyPost_ret (v := .agg #[.int .i64 3, .int .i64 0]) (by simp [results, Tryd.results7, go_sem]) rfl ⟨rfl, ala _ _⟩
    · have t1 : decide (p < 5) = false := decide_eq_false h2
      have t2 : decide (2000 < p) = true := decide_eq_true (by omega)
      clear h1
      go_enter Tryd.func7, Tryd.ntmps7
      go_wp2
      exact bodyPost_ret (v := .agg #[.int .i64 3, .int .i64 0]) (by simp [results, Tryd.results7, go_sem]) rfl ⟨rfl, ala _ _⟩
  · obtain ⟨bb, hbb⟩ : ∃ bb : Bool, bb = true ↔ Pr P := by
      by_cases e : Pr P
      · exact ⟨true, by simp [e]⟩
      · exact ⟨false, by simp [e]⟩
    have HI : Hid (∀ w, Tb w → Calls Tryd.prog 24 #[.int .i64 P] w fun e w' => e = .returned (.tuple #[.bool bb, .agg #[.int .i64 0, .int .i64 0]]) ∧ Below w.heap.size w w') := fun w h => Is_any P bb w (by omega) (by omega) hbb h
    have HT : Hid (Tb (w.alloc (.cells #[.int .i64 0, .int .i64 0] 23))) := hT.alloc _
    have HS0 : Hid (Sv w.heap.size 0 0 (w.alloc (.cells #[.int .i64 0, .int .i64 0] 23))) := Sv.new 0 0 w
    have HK0 : Hid (Below w.heap.size w (w.alloc (.cells #[.int .i64 0, .int .i64 0] 23))) := (Below.refl _ w).alloc (Nat.le_refl _) _
    have t1 : decide ((P : Int) < 5) = false := decide_eq_false (by omega)
    have t2 : decide (2000 < (P : Int)) = false := decide_eq_false (by omega)
    clear hT
    go_enter Tryd.func7, Tryd.ntmps7
    go_wp2_with fail
    refine (HI.out _ HT.out).mono ?_
    rintro e w1 ⟨rfl, k1⟩
    have S1 := HS0.out.below k1
    have K1 : Below w.heap.size w w1 := HK0.out.trans (k1.mono (by simp))
    clear k1 HI HT HS0 HK0
    have e0 : ∀ x : Obj, (w1.alloc x).cell? ⟨w.heap.size, 0, none⟩ = some (.int .i64 0) := fun x => (S1.below ((Below.refl _ _).alloc (Nat.le_refl _) x)).c0
    have e1 : ∀ x : Obj, (w1.alloc x).cell? ⟨w.heap.size, 1, none⟩ = some (.int .i64 0) := fun x => (S1.below ((Below.refl _ _).alloc (Nat.le_refl _) x)).c1
    have e2 : ∀ x : Obj, (w1.alloc x).frozen? ⟨w.heap.size, 0, none⟩ = false := fun x => (S1.below ((Below.refl _ _).alloc (Nat.le_refl _) x)).f0
    have e3 : ∀ x : Obj, (w1.alloc x).frozen? ⟨w.heap.size, 1, none⟩ = false := fun x => (S1.below ((Below.refl _ _).alloc (Nat.le_refl _) x)).f1
    have HS1 : Hid (Sv w.heap.size 0 0 w1) := S1
    have HK1 : Hid (∀ o, Below w.heap.size w (w1.alloc o)) := fun o => K1.alloc (by have := S1.lt; omega) _
    clear S1 K1
    rcases h with ⟨hp, rfl, rfl⟩ | ⟨hp, h⟩
    · obtain rfl : bb = false := by
        cases bb
        · rfl
        · exact absurd (hbb.1 rfl) hp
      clear hbb hp
      go_wp2
      have Z := (HS1.out.alloc #[.int .i64 0, .int .i64 0] 23).set 7 0
      have z0 := Z.c0
      have z1 := Z.c1
      exact bodyPost_ret (v := .agg #[.int .i64 7, .int .i64 0]) (by simp [results, Tryd.results7, go_sem, z0, z1]) rfl ⟨rfl, ((HK1.out _).setCell (by simp) _).setCell (by simp) _⟩
    obtain rfl : bb = true := hbb.2 hp
    clear hbb hp
    rcases h with ⟨h, rfl, rfl⟩ | ⟨a0, a1, h⟩
    · by_cases ha : a < 0
      · have t3 : decide (a < 0) = true := decide_eq_true ha
        clear h ha
        go_wp2
        have Z := (HS1.out.alloc #[.int .i64 0, .int .i64 0] 23).set 3 1
        have z0 := Z.c0
        have z1 := Z.c1
        exact bodyPost_ret (v := .agg #[.int .i64 3, .int .i64 1]) (by simp [results, Tryd.results7, go_sem, z0, z1]) rfl ⟨rfl, ((HK1.out _).setCell (by simp) _).setCell (by simp) _⟩
      · have t3 : decide (a < 0) = false := decide_eq_false ha
        have t4 : decide ((P : Int) ≤ a) = true := decide_eq_true (by omega)
        clear h ha
        go_wp2
        have Z := (HS1.out.alloc #[.int .i64 0, .int .i64 0] 23).set 3 1
        have z0 := Z.c0
        have z1 := Z.c1
        exact bodyPost_ret (v := .agg #[.int .i64 3, .int .i64 1]) (by simp [results, Tryd.results7, go_sem, z0, z1]) rfl ⟨rfl, ((HK1.out _).setCell (by simp) _).setCell (by simp) _⟩
    have t3 : decide (a < 0) = false := decide_eq_false (by omega)
    have t4 : decide ((P : Int) ≤ a) = false := decide_eq_false (by omega)
    rcases h with ⟨h, rfl, rfl⟩ | ⟨b0, b1, h⟩
    · by_cases hb : b < 0
      · have t5 : decide (b < 0) = true := decide_eq_true hb
        clear h hb
        go_wp2
        have Z := (HS1.out.alloc #[.int .i64 0, .int .i64 0] 23).set 3 2
        have z0 := Z.c0
        have z1 := Z.c1
        exact bodyPost_ret (v := .agg #[.int .i64 3, .int .i64 2]) (by simp [results, Tryd.results7, go_sem, z0, z1]) rfl ⟨rfl, ((HK1.out _).setCell (by simp) _).setCell (by simp) _⟩
      · have t5 : decide (b < 0) = false := decide_eq_false hb
        have t6 : decide ((P : Int) ≤ b) = true := decide_eq_true (by omega)
        clear h hb
        go_wp2
        have Z := (HS1.out.alloc #[.int .i64 0, .int .i64 0] 23).set 3 2
        have z0 := Z.c0
        have z1 := Z.c1
        exact bodyPost_ret (v := .agg #[.int .i64 3, .int .i64 2]) (by simp [results, Tryd.results7, go_sem, z0, z1]) rfl ⟨rfl, ((HK1.out _).setCell (by simp) _).setCell (by simp) _⟩
    have t5 : decide (b < 0) = false := decide_eq_false (by omega)
    have t6 : decide ((P : Int) ≤ b) = false := decide_eq_false (by omega)
    obtain ⟨p1, hp1⟩ : ∃ t, 4 * a * a = t := ⟨_, rfl⟩
    have q1 := pos_bd (x := 4 * a) (y := a) (M := 8000) (N := 2000) (by omega) (by omega) a0 (by omega)
    rw [hp1] at q1 h
    obtain ⟨p2, hp2⟩ : ∃ t, p1 * a = t := ⟨_, rfl⟩
    have q2 := pos_bd (x := p1) (y := a) (N := 2000) q1.1 q1.2 a0 (by omega)
    rw [hp2] at q2 h
    obtain ⟨p3, hp3⟩ : ∃ t, 27 * b * b = t := ⟨_, rfl⟩
    have q3 := pos_bd (x := 27 * b) (y := b) (M := 54000) (N := 2000) (by omega) (by omega) b0 (by omega)
    rw [hp3] at q3 h
    have hP0 : ((P : Int) == 0) = false := beq_eq_false_iff_ne.2 (by omega)
    rcases h with ⟨h, rfl, rfl⟩ | ⟨h, rfl, rfl⟩
    · have t7 : ((p2 + p3) % (P : Int) == 0) = true := beq_iff_eq.2 h
      clear h
      go_wp2
      have Z := (HS1.out.alloc #[.int .i64 0, .int .i64 0] 23).set 6 0
      have z0 := Z.c0
      have z1 := Z.c1
      exact bodyPost_ret (v := .agg #[.int .i64 6, .int .i64 0]) (by simp [results, Tryd.results7, go_sem, z0, z1]) rfl ⟨rfl, ((HK1.out _).setCell (by simp) _).setCell (by simp) _⟩
    · have t7 : ((p2 + p3) % (P : Int) == 0) = false := beq_eq_false_iff_ne.2 h
      clear h
      go_wp2
      have Z := (HS1.out.alloc #[.int .i64 0, .int .i64 0] 23).set 0 0
      have z0 := Z.c0
      have z1 := Z.c1
      exact bodyPost_ret (v := .agg #[.int .i64 0, .int .i64 0]) (by simp [results, Tryd.results7, go_sem, z0, z1]) rfl ⟨rfl, ((HK1.out _).setCell (by simp) _).setCell (by simp) _⟩

end Go.Proofs.YtbeceimopamllaaDoor
