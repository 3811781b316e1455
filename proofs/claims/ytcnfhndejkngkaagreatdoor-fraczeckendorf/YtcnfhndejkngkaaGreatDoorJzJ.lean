import Derived.Test.YtcnfhndejkngkaaGreatDoorJzF
import Derived.Test.YtcnfhndejkngkaaGreatDoorJzG
import Derived.Test.YtcnfhndejkngkaaGreatDoorJzD
section
/- The reference's FracFault. -/
set_option linter.unusedSimpArgs false
set_option linter.unusedVariables false
set_option maxRecDepth 100000
namespace Go.Proofs.YtcnfhndejkngkaaGreatDoor
open Go.RowKit

/-- A fraction's fault. -/
def ffF (x y : Int) : Int := if numB x = true ∧ numB y = true then (if y < 1 ∨ Int.gcd x y ≠ 1 then 6 else 0) else 3
theorem ffF_3 {x y : Int} (h : ¬ (numB x = true ∧ numB y = true)) : ffF x y = 3 := by unfold ffF; rw [if_neg h]
theorem ffF_6 {x y : Int} (h : numB x = true ∧ numB y = true) (h2 : y < 1 ∨ Int.gcd x y ≠ 1) : ffF x y = 6 := by unfold ffF; rw [if_pos h, if_pos h2]
theorem ffF_0 {x y : Int} (h : numB x = true ∧ numB y = true) (h2 : ¬ (y < 1 ∨ Int.gcd x y ≠ 1)) : ffF x y = 0 := by unfold ffF; rw [if_pos h, if_neg h2]

set_option maxHeartbeats 4000000 in
theorem FracFault_any (x y : Int) (w : World) :
    Calls Tryz.prog 9 #[.agg #[.int .i64 x, .int .i64 y]] w fun e w' => e = .returned (.agg #[.int .i64 (ffF x y), .int .i64 0]) ∧ Below w.heap.size w w' := by
  obtain ⟨W0, hW0⟩ : ∃ W0, W0 = (w.alloc (.cells #[.int .i64 x, .int .i64 y] 23)).alloc (.cells #[.int .i64 0, .int .i64 0] 25) := ⟨_, rfl⟩
  have H0 : Hid (Cl w.heap.size [.int .i64 x, .int .i64 y] 23 W0 ∧ Cl (w.heap.size + 1) [.int .i64 0, .int .i64 0] 25 W0 ∧ Below w.heap.size w W0) := by
    have h1 := Cl.new [.int .i64 0, .int .i64 0] 25 (w.alloc (.cells #[.int .i64 x, .int .i64 y] 23))
    show _ ∧ _
    rw [hW0]
    exact ⟨(Cl.new _ _ _).alloc _, by simpa using h1, ((Below.refl _ _).alloc (Nat.le_refl _) _).alloc (by simp) _⟩
  have HNx : Hid (∀ W b, b = numB x → Calls Tryz.prog 35 #[.int .i64 x] W fun e w' => e = .returned (.bool b) ∧ w' = W) := fun W b h => by rw [h]; exact number_any x W
  have HNy : Hid (∀ W b, b = numB y → Calls Tryz.prog 35 #[.int .i64 y] W fun e w' => e = .returned (.bool b) ∧ w' = W) := fun W b h => by rw [h]; exact number_any y W
  have q0 := H0.out.1.cell 0
  have q1 := H0.out.1.cell 1
  simp at q0 q1
  go_enter Tryz.func9, Tryz.ntmps9
  go_wp2_with fail
  rw [← hW0]
  clear hW0
  obtain ⟨bx, hbx⟩ : ∃ b, b = numB x := ⟨_, rfl⟩
  obtain ⟨by', hby⟩ : ∃ b, b = numB y := ⟨_, rfl⟩
  refine (HNx.out _ bx hbx).mono ?_
  rintro e w1 ⟨rfl, hw1⟩
  rw [hw1]
  clear hw1 w1
  cases bx with
  | false =>
    have HC : Hid (ffF x y = 3) := ffF_3 (by rw [← hbx]; simp)
    clear hbx hby
    go_wp2_with fail
    refine (F_any 3 0 _).mono ?_
    rintro e w5 ⟨rfl, k5⟩
    have c5 := H0.out.2.1.below k5
    have q0 := c5.cell 0
    have q1 := c5.cell 1
    have q2 := c5.frozen 0
    have q3 := c5.frozen 1
    simp at q0 q1
    have HF : Hid (Below w.heap.size w ((w5.setCell ⟨w.heap.size + 1, 0, none⟩ (.int .i64 3)).setCell ⟨w.heap.size + 1, 1, none⟩ (.int .i64 0)) ∧ Cl (w.heap.size + 1) [.int .i64 3, .int .i64 0] 25 ((w5.setCell ⟨w.heap.size + 1, 0, none⟩ (.int .i64 3)).setCell ⟨w.heap.size + 1, 1, none⟩ (.int .i64 0))) :=
      ⟨((H0.out.2.2.trans (k5.mono H0.out.2.2.size)).setCell (by simp) _).setCell (by simp) _, (c5.set 0 _).set 1 _⟩
    clear c5 k5 H0
    go_wp2
    have C := HF.out.2
    have e1 := C.cell 0
    have e2 := C.cell 1
    simp at e1 e2
    exact bodyPost_ret (v := .agg #[.int .i64 3, .int .i64 0]) (by simp [results, Tryz.results9, go_sem, e1, e2]) rfl ⟨by rw [HC.out], HF.out.1⟩
  | true =>
    have Hbx : Hid (true = numB x) := hbx
    have Hby : Hid (by' = numB y) := hby
    clear hbx hby
    go_wp2_with fail
    refine (HNy.out _ by' Hby.out).mono ?_
    rintro e w1 ⟨rfl, hw1⟩
    rw [hw1]
    clear hw1 w1
    cases by' with
    | false =>
      have HC : Hid (ffF x y = 3) := ffF_3 (by rw [← Hby.out]; simp)
      clear Hbx Hby
      go_wp2_with fail
      refine (F_any 3 0 _).mono ?_
      rintro e w5 ⟨rfl, k5⟩
      have c5 := H0.out.2.1.below k5
      have q0 := c5.cell 0
      have q1 := c5.cell 1
      have q2 := c5.frozen 0
      have q3 := c5.frozen 1
      simp at q0 q1
      have HF : Hid (Below w.heap.size w ((w5.setCell ⟨w.heap.size + 1, 0, none⟩ (.int .i64 3)).setCell ⟨w.heap.size + 1, 1, none⟩ (.int .i64 0)) ∧ Cl (w.heap.size + 1) [.int .i64 3, .int .i64 0] 25 ((w5.setCell ⟨w.heap.size + 1, 0, none⟩ (.int .i64 3)).setCell ⟨w.heap.size + 1, 1, none⟩ (.int .i64 0))) :=
        ⟨((H0.out.2.2.trans (k5.mono H0.out.2.2.size)).setCell (by simp) _).setCell (by simp) _, (c5.set 0 _).set 1 _⟩
      clear c5 k5 H0
      go_wp2
      have C := HF.out.2
      have e1 := C.cell 0
      have e2 := C.cell 1
      simp at e1 e2
      exact bodyPost_ret (v := .agg #[.int .i64 3, .int .i64 0]) (by simp [results, Tryz.results9, go_sem, e1, e2]) rfl ⟨by rw [HC.out], HF.out.1⟩
    | true =>
      have hx := Hbx.out.symm
      have hy := Hby.out.symm
      have hxl : -1000000000000000000 ≤ x ∧ x ≤ 1000000000000000000 := by simpa [numB] using hx
      have hyl : -1000000000000000000 ≤ y ∧ y ≤ 1000000000000000000 := by simpa [numB] using hy
      have HB : Hid (numB x = true ∧ numB y = true) := ⟨hx, hy⟩
      clear Hbx Hby hx hy
      by_cases h1 : y < 1
      · have d1 : decide (y < 1) = true := decide_eq_true h1
        have HC : Hid (ffF x y = 6) := ffF_6 HB.out (.inl h1)
        clear h1
        go_wp2_with fail
        refine (F_any 6 0 _).mono ?_
        rintro e w5 ⟨rfl, k5⟩
        have c5 := H0.out.2.1.below k5
        have q0 := c5.cell 0
        have q1 := c5.cell 1
        have q2 := c5.frozen 0
        have q3 := c5.frozen 1
        simp at q0 q1
        have HF : Hid (Below w.heap.size w ((w5.setCell ⟨w.heap.size + 1, 0, none⟩ (.int .i64 6)).setCell ⟨w.heap.size + 1, 1, none⟩ (.int .i64 0)) ∧ Cl (w.heap.size + 1) [.int .i64 6, .int .i64 0] 25 ((w5.setCell ⟨w.heap.size + 1, 0, none⟩ (.int .i64 6)).setCell ⟨w.heap.size + 1, 1, none⟩ (.int .i64 0))) :=
          ⟨((H0.out.2.2.trans (k5.mono H0.out.2.2.size)).setCell (by simp) _).setCell (by simp) _, (c5.set 0 _).set 1 _⟩
        clear c5 k5 H0
        go_wp2
        have C := HF.out.2
        have e1 := C.cell 0
        have e2 := C.cell 1
        simp at e1 e2
        exact bodyPost_ret (v := .agg #[.int .i64 6, .int .i64 0]) (by simp [results, Tryz.results9, go_sem, e1, e2]) rfl ⟨by rw [HC.out], HF.out.1⟩
      · have d1 : decide (y < 1) = false := decide_eq_false h1
        have HGc : Hid (∀ W, Calls Tryz.prog 39 #[.int .i64 x, .int .i64 y] W fun e w' => e = .returned (.int .i64 (Int.gcd x y : Int)) ∧ w' = W) := fun W => refGcd_nat x.natAbs y.natAbs W (by omega) (by omega) x y rfl rfl
        have HY1 : Hid (¬ y < 1) := h1
        obtain ⟨G, hG⟩ : ∃ G, G = Int.gcd x y := ⟨_, rfl⟩
        rw [← hG] at HGc
        go_wp2_with fail
        refine (HGc.out _).mono ?_
        rintro e w1 ⟨rfl, hw1⟩
        rw [hw1]
        clear hw1 w1
        by_cases h2 : G = 1
        · have d2 : ((G : Int) != 1) = false := by rw [h2]; rfl
          have HC : Hid (ffF x y = 0) := ffF_0 HB.out (by rw [← hG]; rintro (h | h); exact absurd h (by have := HY1.out; omega); exact h h2)
          have c5 := H0.out.2.1
          have q2' := c5.cell 0
          have q3' := c5.cell 1
          have q4' := c5.frozen 0
          have q5' := c5.frozen 1
          simp at q2' q3'
          have HF : Hid (Below w.heap.size w ((W0.setCell ⟨w.heap.size + 1, 0, none⟩ (.int .i64 0)).setCell ⟨w.heap.size + 1, 1, none⟩ (.int .i64 0)) ∧ Cl (w.heap.size + 1) [.int .i64 0, .int .i64 0] 25 ((W0.setCell ⟨w.heap.size + 1, 0, none⟩ (.int .i64 0)).setCell ⟨w.heap.size + 1, 1, none⟩ (.int .i64 0))) :=
            ⟨(H0.out.2.2.setCell (by simp) _).setCell (by simp) _, (c5.set 0 _).set 1 _⟩
          clear c5 H0 hG h2
          go_wp2
          have C := HF.out.2
          have e1 := C.cell 0
          have e2 := C.cell 1
          simp at e1 e2
          exact bodyPost_ret (v := .agg #[.int .i64 0, .int .i64 0]) (by simp [results, Tryz.results9, go_sem, e1, e2]) rfl ⟨by rw [HC.out], HF.out.1⟩
        · have d2 : ((G : Int) != 1) = true := by simp; omega
          have HC : Hid (ffF x y = 6) := ffF_6 HB.out (.inr (by rw [← hG]; exact h2))
          clear hG h2
          go_wp2_with fail
          refine (F_any 6 0 _).mono ?_
          rintro e w5 ⟨rfl, k5⟩
          have c5 := H0.out.2.1.below k5
          have q0 := c5.cell 0
          have q1 := c5.cell 1
          have q2 := c5.frozen 0
          have q3 := c5.frozen 1
          simp at q0 q1
          have HF : Hid (Below w.heap.size w ((w5.setCell ⟨w.heap.size + 1, 0, none⟩ (.int .i64 6)).setCell ⟨w.heap.size + 1, 1, none⟩ (.int .i64 0)) ∧ Cl (w.heap.size + 1) [.int .i64 6, .int .i64 0] 25 ((w5.setCell ⟨w.heap.size + 1, 0, none⟩ (.int .i64 6)).setCell ⟨w.heap.size + 1, 1, none⟩ (.int .i64 0))) :=
            ⟨((H0.out.2.2.trans (k5.mono H0.out.2.2.size)).setCell (by simp) _).setCell (by simp) _, (c5.set 0 _).set 1 _⟩
          clear c5 k5 H0
          go_wp2
          have C := HF.out.2
          have e1 := C.cell 0
          have e2 := C.cell 1
          simp at e1 e2
          exact bodyPost_ret (v := .agg #[.int .i64 6, .int .i64 0]) (by simp [results, Tryz.results9, go_sem, e1, e2]) rfl ⟨by rw [HC.out], HF.out.1⟩

end Go.Proofs.YtcnfhndejkngkaaGreatDoor
end

section
/- frac.check. -/
set_option linter.unusedSimpArgs false
set_option linter.unusedVariables false
set_option maxRecDepth 100000
namespace Go.Proofs.YtcnfhndejkngkaaGreatDoor
open Go.RowKit

set_option maxHeartbeats 4000000 in
theorem check_any (x y : Int) (w : World) :
    Calls Tryz.prog 37 #[.agg #[.int .i64 x, .int .i64 y]] w fun e w' => e = .returned (.agg #[.int .i64 (ffF x y), .int .i64 0]) ∧ Below w.heap.size w w' := by
  obtain ⟨W9, hW0⟩ : ∃ W0, W0 = (w.alloc (.cells #[.int .i64 x, .int .i64 y] 23)).alloc (.cells #[.int .i64 0, .int .i64 0] 25) := ⟨_, rfl⟩
  have H0 : Hid (Cl w.heap.size [.int .i64 x, .int .i64 y] 23 W9 ∧ Cl (w.heap.size + 1) [.int .i64 0, .int .i64 0] 25 W9 ∧ Below w.heap.size w W9) := by
    have h1 := Cl.new [.int .i64 0, .int .i64 0] 25 (w.alloc (.cells #[.int .i64 x, .int .i64 y] 23))
    show _ ∧ _
    rw [hW0]
    exact ⟨(Cl.new _ _ _).alloc _, by simpa using h1, ((Below.refl _ _).alloc (Nat.le_refl _) _).alloc (by simp) _⟩
  have HNx : Hid (∀ W b, b = numB x → Calls Tryz.prog 64 #[.int .i64 x] W fun e w' => e = .returned (.bool b) ∧ w' = W) := fun W b h => by rw [h]; exact isNumber_any x W
  have HNy : Hid (∀ W b, b = numB y → Calls Tryz.prog 64 #[.int .i64 y] W fun e w' => e = .returned (.bool b) ∧ w' = W) := fun W b h => by rw [h]; exact isNumber_any y W
  have q0 := H0.out.1.cell 0
  have q1 := H0.out.1.cell 1
  simp at q0 q1
  go_enter Tryz.func37, Tryz.ntmps37
  go_wp2_with fail
  rw [← hW0]
  clear hW0
  obtain ⟨bx, hbx⟩ : ∃ b, b = numB x := ⟨_, rfl⟩
  obtain ⟨by', hby⟩ : ∃ b, b = numB y := ⟨_, rfl⟩
  refine (HNx.out _ bx hbx).mono ?_
  rintro e w1 ⟨rfl, hw1⟩
  rw [hw1]
  clear hw1 w1
  cases bx with
  | false =>
    have HC : Hid (ffF x y = 3) := ffF_3 (by rw [← hbx]; simp)
    clear hbx hby q0 q1
    have q0 := H0.out.2.1.cell 0
    have q1 := H0.out.2.1.cell 1
    have q2 := H0.out.2.1.frozen 0
    have q3 := H0.out.2.1.frozen 1
    simp at q0 q1
    have HF : Hid (Below w.heap.size w ((W9.setCell ⟨w.heap.size + 1, 0, none⟩ (.int .i64 3)).setCell ⟨w.heap.size + 1, 1, none⟩ (.int .i64 0)) ∧ Cl (w.heap.size + 1) [.int .i64 3, .int .i64 0] 25 ((W9.setCell ⟨w.heap.size + 1, 0, none⟩ (.int .i64 3)).setCell ⟨w.heap.size + 1, 1, none⟩ (.int .i64 0))) :=
      ⟨(H0.out.2.2.setCell (by simp) _).setCell (by simp) _, (H0.out.2.1.set 0 _).set 1 _⟩
    clear H0
    go_wp2
    have C := HF.out.2
    have e1 := C.cell 0
    have e2 := C.cell 1
    simp at e1 e2
    exact bodyPost_ret (v := .agg #[.int .i64 3, .int .i64 0]) (by simp [results, Tryz.results37, go_sem, e1, e2]) rfl ⟨by rw [HC.out], HF.out.1⟩
  | true =>
    have Hbx : Hid (true = numB x) := hbx
    have Hby : Hid (by' = numB y) := hby
    clear hbx hby
    go_wp2_with fail
    refine (HNy.out _ by' Hby.out).mono ?_
    rintro e w1 ⟨rfl, hw1⟩
    rw [hw1]
    clear hw1 w1
    cases by' with
    | false =>
      have HC : Hid (ffF x y = 3) := ffF_3 (by rw [← Hby.out]; simp)
      clear Hbx Hby q0 q1
      have q0 := H0.out.2.1.cell 0
      have q1 := H0.out.2.1.cell 1
      have q2 := H0.out.2.1.frozen 0
      have q3 := H0.out.2.1.frozen 1
      simp at q0 q1
      have HF : Hid (Below w.heap.size w ((W9.setCell ⟨w.heap.size + 1, 0, none⟩ (.int .i64 3)).setCell ⟨w.heap.size + 1, 1, none⟩ (.int .i64 0)) ∧ Cl (w.heap.size + 1) [.int .i64 3, .int .i64 0] 25 ((W9.setCell ⟨w.heap.size + 1, 0, none⟩ (.int .i64 3)).setCell ⟨w.heap.size + 1, 1, none⟩ (.int .i64 0))) :=
        ⟨(H0.out.2.2.setCell (by simp) _).setCell (by simp) _, (H0.out.2.1.set 0 _).set 1 _⟩
      clear H0
      go_wp2
      have C := HF.out.2
      have e1 := C.cell 0
      have e2 := C.cell 1
      simp at e1 e2
      exact bodyPost_ret (v := .agg #[.int .i64 3, .int .i64 0]) (by simp [results, Tryz.results37, go_sem, e1, e2]) rfl ⟨by rw [HC.out], HF.out.1⟩
    | true =>
      have hx := Hbx.out.symm
      have hy := Hby.out.symm
      have HB : Hid (numB x = true ∧ numB y = true) := ⟨hx, hy⟩
      have HGc : Hid (∀ W, Calls Tryz.prog 65 #[.int .i64 x, .int .i64 y] W fun e w' => e = .returned (.tuple #[.int .i64 (Int.gcd x y : Int), .agg #[.int .i64 0, .int .i64 0]]) ∧ Below W.heap.size W w') := fun W => Gcd_ok x y W (by unfold okB; rw [hx, hy]; rfl)
      clear Hbx Hby hx hy
      obtain ⟨G, hG⟩ : ∃ G, G = Int.gcd x y := ⟨_, rfl⟩
      rw [← hG] at HGc
      go_wp2_with fail
      refine (HGc.out _).mono ?_
      rintro e w1 ⟨rfl, k1⟩
      have X1 := H0.out.1.below k1
      have Y1 := H0.out.2.1.below k1
      have r0 := X1.cell 0
      have r1 := X1.cell 1
      have r2 := X1.lt
      have r3 := Y1.cell 0
      have r4 := Y1.cell 1
      have r5 := Y1.lt
      have r6 := Y1.frozen 0
      have r7 := Y1.frozen 1
      simp at r0 r1 r3 r4
      have H1 : Hid (Cl (w.heap.size + 1) [.int .i64 0, .int .i64 0] 25 w1 ∧ Below w.heap.size w w1) := ⟨Y1, H0.out.2.2.trans (k1.mono H0.out.2.2.size)⟩
      clear k1 q0 q1 X1 Y1
      by_cases h1 : y < 1
      · have d1 : decide (y < 1) = true := decide_eq_true h1
        have HC : Hid (ffF x y = 6) := ffF_6 HB.out (.inl h1)
        clear h1 hG
        have HF : Hid (Below w.heap.size w (((w1.setCell ⟨w.heap.size + 1, 0, none⟩ (.int .i64 6)).setCell ⟨w.heap.size + 1, 1, none⟩ (.int .i64 0)).alloc (.cells #[.int .i64 0, .int .i64 0] 25)) ∧ Cl (w.heap.size + 1) [.int .i64 6, .int .i64 0] 25 (((w1.setCell ⟨w.heap.size + 1, 0, none⟩ (.int .i64 6)).setCell ⟨w.heap.size + 1, 1, none⟩ (.int .i64 0)).alloc (.cells #[.int .i64 0, .int .i64 0] 25))) := by
          have h := (H1.out.2.setCell (p := ⟨w.heap.size + 1, 0, none⟩) (by simp) (.int .i64 6)).setCell (p := ⟨w.heap.size + 1, 1, none⟩) (by simp) (.int .i64 0)
          exact ⟨h.alloc h.size _, ((H1.out.1.set 0 _).set 1 _).alloc _⟩
        clear H0 H1
        go_wp2
        have C := HF.out.2
        have e1 := C.cell 0
        have e2 := C.cell 1
        simp at e1 e2
        exact bodyPost_ret (v := .agg #[.int .i64 6, .int .i64 0]) (by simp [results, Tryz.results37, go_sem, e1, e2]) rfl ⟨by rw [HC.out], HF.out.1⟩
      · have d1 : decide (y < 1) = false := decide_eq_false h1
        have hG1 : 1 ≤ G := by
          rw [hG]
          rcases Nat.eq_zero_or_pos (Int.gcd x y) with h | h
          · rw [Int.gcd_eq_zero_iff] at h; omega
          · exact h
        by_cases h2 : G = 1
        · have d2 : decide (1 < (G : Int)) = false := decide_eq_false (by omega)
          have HC : Hid (ffF x y = 0) := ffF_0 HB.out (by rw [← hG]; rintro (h | h); exact h1 h; exact h h2)
          clear h1 h2 hG1 hG
          have HF : Hid (Below w.heap.size w (((w1.setCell ⟨w.heap.size + 1, 0, none⟩ (.int .i64 0)).setCell ⟨w.heap.size + 1, 1, none⟩ (.int .i64 0)).alloc (.cells #[.int .i64 0, .int .i64 0] 25)) ∧ Cl (w.heap.size + 1) [.int .i64 0, .int .i64 0] 25 (((w1.setCell ⟨w.heap.size + 1, 0, none⟩ (.int .i64 0)).setCell ⟨w.heap.size + 1, 1, none⟩ (.int .i64 0)).alloc (.cells #[.int .i64 0, .int .i64 0] 25))) := by
            have h := (H1.out.2.setCell (p := ⟨w.heap.size + 1, 0, none⟩) (by simp) (.int .i64 0)).setCell (p := ⟨w.heap.size + 1, 1, none⟩) (by simp) (.int .i64 0)
            exact ⟨h.alloc h.size _, ((H1.out.1.set 0 _).set 1 _).alloc _⟩
          clear H0 H1
          go_wp2
          have C := HF.out.2
          have e1 := C.cell 0
          have e2 := C.cell 1
          simp at e1 e2
          exact bodyPost_ret (v := .agg #[.int .i64 0, .int .i64 0]) (by simp [results, Tryz.results37, go_sem, e1, e2]) rfl ⟨by rw [HC.out], HF.out.1⟩
        · have d2 : decide (1 < (G : Int)) = true := decide_eq_true (by omega)
          have HC : Hid (ffF x y = 6) := ffF_6 HB.out (.inr (by rw [← hG]; exact h2))
          clear h1 h2 hG1 hG
          have HF : Hid (Below w.heap.size w (((w1.setCell ⟨w.heap.size + 1, 0, none⟩ (.int .i64 6)).setCell ⟨w.heap.size + 1, 1, none⟩ (.int .i64 0)).alloc (.cells #[.int .i64 0, .int .i64 0] 25)) ∧ Cl (w.heap.size + 1) [.int .i64 6, .int .i64 0] 25 (((w1.setCell ⟨w.heap.size + 1, 0, none⟩ (.int .i64 6)).setCell ⟨w.heap.size + 1, 1, none⟩ (.int .i64 0)).alloc (.cells #[.int .i64 0, .int .i64 0] 25))) := by
            have h := (H1.out.2.setCell (p := ⟨w.heap.size + 1, 0, none⟩) (by simp) (.int .i64 6)).setCell (p := ⟨w.heap.size + 1, 1, none⟩) (by simp) (.int .i64 0)
            exact ⟨h.alloc h.size _, ((H1.out.1.set 0 _).set 1 _).alloc _⟩
          clear H0 H1
          go_wp2
          have C := HF.out.2
          have e1 := C.cell 0
          have e2 := C.cell 1
          simp at e1 e2
          exact bodyPost_ret (v := .agg #[.int .i64 6, .int .i64 0]) (by simp [results, Tryz.results37, go_sem, e1, e2]) rfl ⟨by rw [HC.out], HF.out.1⟩
end Go.Proofs.YtcnfhndejkngkaaGreatDoor
end
