import Derived.Test.YtcnfhndejkngkaaGreatDoorJpP
import Derived.Test.YtcnfhndejkngkaaGreatDoorJpO
set_option linter.unusedSimpArgs false
set_option linter.unusedVariables false
set_option maxRecDepth 100000
namespace Go.Proofs.YtcnfhndejkngkaaGreatDoor
open Go.RowKit
def nxf (x y n : Int) : Int × Int := if ffF x y ≠ 0 then (ffF x y, 0) else if n < y ∨ 1000000 < n then (3, 1) else if 1000000 < x ∨ x < -1000000 then (9, 0) else (0, 0)
def NxOut (x y n c d : Int) : Prop := ((nxf x y n).1 ≠ 0 ∧ c = 0 ∧ d = 0) ∨ ((nxf x y n).1 = 0 ∧ c * y - x * d = 1 ∧ 1 ≤ d ∧ d ≤ n ∧ n < d + y)
theorem nxf_cases (x y n : Int) : ((ffF x y = 3 ∨ ffF x y = 6) ∧ nxf x y n = (ffF x y, 0)) ∨ (ffF x y = 0 ∧ n < y ∧ nxf x y n = (3, 1)) ∨ (ffF x y = 0 ∧ y ≤ n ∧ 1000000 < n ∧ nxf x y n = (3, 1)) ∨ (ffF x y = 0 ∧ y ≤ n ∧ n ≤ 1000000 ∧ (1000000 < x ∨ x < -1000000) ∧ nxf x y n = (9, 0)) ∨ (ffF x y = 0 ∧ y ≤ n ∧ n ≤ 1000000 ∧ x ≤ 1000000 ∧ -1000000 ≤ x ∧ nxf x y n = (0, 0)) := by
  unfold nxf
  rcases ffF_casesT x y with h | h | h
  · rw [if_neg (by rw [h]; simp)]
    by_cases h1 : n < y
    · exact .inr (.inl ⟨h, h1, by rw [if_pos (.inl h1)]⟩)
    · by_cases h2 : 1000000 < n
      · exact .inr (.inr (.inl ⟨h, by omega, h2, by rw [if_pos (.inr h2)]⟩))
      · rw [if_neg (by omega)]
        by_cases h3 : 1000000 < x ∨ x < -1000000
        · exact .inr (.inr (.inr (.inl ⟨h, by omega, by omega, h3, by rw [if_pos h3]⟩)))
        · exact .inr (.inr (.inr (.inr ⟨h, by omega, by omega, by omega, by omega, by rw [if_neg h3]⟩)))
  · exact .inl ⟨.inl h, by rw [if_pos (by rw [h]; decide)]⟩
  · exact .inl ⟨.inr h, by rw [if_pos (by rw [h]; decide)]⟩
set_option maxHeartbeats 4000000 in
theorem Next_any (x y n : Int) (w : World) :
    Calls Tryz.prog 8 #[.agg #[.int .i64 x, .int .i64 y], .int .i64 n] w fun e w' => ∃ c d : Int, e = .returned (.tuple #[.agg #[.int .i64 c, .int .i64 d], .agg #[.int .i64 (nxf x y n).1, .int .i64 (nxf x y n).2]]) ∧ NxOut x y n c d ∧ Below w.heap.size w w' := by
  have HPc : Hid _ := nxf_cases x y n
  have HOk : Hid (ffF x y = 0 → -1000000000000000000 ≤ x ∧ x ≤ 1000000000000000000 ∧ 1 ≤ y ∧ y ≤ 1000000000000000000 ∧ Int.gcd x y = 1) := fun h => ffF_ok h
  obtain ⟨c0, hc0⟩ : ∃ c, c = ffF x y := ⟨_, rfl⟩
  have HCh : Hid (∀ W, Calls Tryz.prog 37 #[.agg #[.int .i64 x, .int .i64 y]] W fun e w' => e = .returned (.agg #[.int .i64 c0, .int .i64 0]) ∧ Below W.heap.size W w') := fun W => by rw [hc0]; exact check_any x y W
  have HC0 : Hid (c0 = ffF x y) := hc0
  clear hc0
  obtain ⟨b4, hb4⟩ : ∃ b, b = w.heap.size + 1 := ⟨_, rfl⟩
  obtain ⟨b5, hb5⟩ : ∃ b, b = w.heap.size + 1 + 1 := ⟨_, rfl⟩
  have n45 : b4 ≠ b5 := by omega
  have n54 : b5 ≠ b4 := by omega
  have z4 : w.heap.size ≤ b4 := by omega
  have z5 : w.heap.size ≤ b5 := by omega
  obtain ⟨W0, hW0⟩ : ∃ W, W = ((w.alloc (.cells #[.int .i64 x, .int .i64 y] 23)).alloc (.cells #[.int .i64 0, .int .i64 0] 23)).alloc (.cells #[.int .i64 0, .int .i64 0] 25) := ⟨_, rfl⟩
  have K0 : Hid (Sv w.heap.size x y W0 ∧ Sv b4 0 0 W0 ∧ Sv b5 0 0 W0 ∧ Below w.heap.size w W0) := by
    show _ ∧ _
    rw [hW0, hb4, hb5]
    have a1 := Sv.newT x y w 23
    have a2 := Sv.newT 0 0 (w.alloc (.cells #[.int .i64 x, .int .i64 y] 23)) 23
    have a3 := Sv.newT 0 0 ((w.alloc (.cells #[.int .i64 x, .int .i64 y] 23)).alloc (.cells #[.int .i64 0, .int .i64 0] 23)) 25
    simp only [World.size_alloc] at a2 a3
    exact ⟨(a1.alloc _ _).alloc _ _, a2.alloc _ _, a3, (((Below.refl _ _).alloc (Nat.le_refl _) _).alloc (by simp) _).alloc (by simp; omega) _⟩
  have p0 := K0.out.1.c0
  have p1 := K0.out.1.c1
  go_enter Tryz.func8, Tryz.ntmps8
  go_wp2_with fail
  rw [← hW0]
  simp only [← hb5]
  simp only [← hb4]
  clear hW0 hb4 hb5
  refine (HCh.out W0).mono ?_
  rintro e w1 ⟨rfl, k1⟩
  have K1 : Hid (Sv w.heap.size x y w1 ∧ Sv b4 0 0 w1 ∧ Sv b5 0 0 w1 ∧ Below w.heap.size w w1) := ⟨K0.out.1.below k1, K0.out.2.1.below k1, K0.out.2.2.1.below k1, K0.out.2.2.2.trans (k1.mono K0.out.2.2.2.size)⟩
  clear k1 K0 p0 p1 HCh
  have p0 := K1.out.1.c0
  have p1 := K1.out.1.c1
  have p2 := K1.out.1.lt
  have r0 := K1.out.2.1.c0
  have r1 := K1.out.2.1.c1
  have r2 := K1.out.2.1.f0
  have r3 := K1.out.2.1.f1
  have r4 := K1.out.2.2.1.c0
  have r5 := K1.out.2.2.1.c1
  have r6 := K1.out.2.2.1.f0
  have r7 := K1.out.2.2.1.f1
  have r8 := K1.out.2.1.lt
  have r9 := K1.out.2.2.1.lt
  rcases HPc.out with ⟨h0, h1⟩ | ⟨h0, h1, h2⟩ | ⟨h0, h1, h2, h3⟩ | ⟨h0, h1, h2, h3, h4⟩ | ⟨h0, h1, h2, h3, h4, h5⟩
  · have HC : Hid (nxf x y n = (c0, 0)) := by rw [HC0.out]; exact h1
    have hc : c0 ≠ 0 := by rw [HC0.out]; rcases h0 with h | h <;> rw [h] <;> decide
    have tc : (c0 != 0) = true := by simp [hc]
    have HF : Hid (Sv b4 0 0 (((((w1.setCell ⟨b4, 0, none⟩ (.int .i64 0)).setCell ⟨b4, 1, none⟩ (.int .i64 0)).setCell ⟨b5, 0, none⟩ (.int .i64 c0)).setCell ⟨b5, 1, none⟩ (.int .i64 0)).alloc (.cells #[.int .i64 c0, .int .i64 0] 25)) ∧ Sv b5 c0 0 (((((w1.setCell ⟨b4, 0, none⟩ (.int .i64 0)).setCell ⟨b4, 1, none⟩ (.int .i64 0)).setCell ⟨b5, 0, none⟩ (.int .i64 c0)).setCell ⟨b5, 1, none⟩ (.int .i64 0)).alloc (.cells #[.int .i64 c0, .int .i64 0] 25)) ∧ Below w.heap.size w (((((w1.setCell ⟨b4, 0, none⟩ (.int .i64 0)).setCell ⟨b4, 1, none⟩ (.int .i64 0)).setCell ⟨b5, 0, none⟩ (.int .i64 c0)).setCell ⟨b5, 1, none⟩ (.int .i64 0)).alloc (.cells #[.int .i64 c0, .int .i64 0] 25))) := by
      have h := (((K1.out.2.2.2.setCell (p := ⟨b4, 0, none⟩) z4 (.int .i64 0)).setCell (p := ⟨b4, 1, none⟩) z4 (.int .i64 0)).setCell (p := ⟨b5, 0, none⟩) z5 (.int .i64 c0)).setCell (p := ⟨b5, 1, none⟩) z5 (.int .i64 0)
      exact ⟨((K1.out.2.1.set 0 0).other _ _ n54).alloc _ _, ((K1.out.2.2.1.other _ _ n45).set _ _).alloc _ _, h.alloc h.size _⟩
    clear h0 h1 HPc HOk HC0 K1
    go_wp2
    go_region
    all_goals
      go_wp2
      have e1 := HF.out.1.drew.c0
      have e2 := HF.out.1.drew.c1
      have e3 := HF.out.2.1.drew.c0
      have e4 := HF.out.2.1.drew.c1
      exact bodyPost_ret (v := .tuple #[.agg #[.int .i64 0, .int .i64 0], .agg #[.int .i64 c0, .int .i64 0]]) (by simp [results, Tryz.results8, go_sem, e1, e2, e3, e4]) rfl ⟨0, 0, by rw [HC.out], .inl ⟨by rw [HC.out]; exact hc, rfl, rfl⟩, HF.out.2.2.drew⟩
  · have HC : Hid (nxf x y n = (3, 1)) := h2
    have tc : c0 = 0 := by rw [HC0.out, h0]
    subst tc
    have tn : decide (n < y) = true := decide_eq_true h1
    have HF : Hid (Sv b4 0 0 (((((w1.setCell ⟨b4, 0, none⟩ (.int .i64 0)).setCell ⟨b4, 1, none⟩ (.int .i64 0)).setCell ⟨b5, 0, none⟩ (.int .i64 3)).setCell ⟨b5, 1, none⟩ (.int .i64 1)).alloc (.cells #[.int .i64 0, .int .i64 0] 25)) ∧ Sv b5 3 1 (((((w1.setCell ⟨b4, 0, none⟩ (.int .i64 0)).setCell ⟨b4, 1, none⟩ (.int .i64 0)).setCell ⟨b5, 0, none⟩ (.int .i64 3)).setCell ⟨b5, 1, none⟩ (.int .i64 1)).alloc (.cells #[.int .i64 0, .int .i64 0] 25)) ∧ Below w.heap.size w (((((w1.setCell ⟨b4, 0, none⟩ (.int .i64 0)).setCell ⟨b4, 1, none⟩ (.int .i64 0)).setCell ⟨b5, 0, none⟩ (.int .i64 3)).setCell ⟨b5, 1, none⟩ (.int .i64 1)).alloc (.cells #[.int .i64 0, .int .i64 0] 25))) := by
      have h := (((K1.out.2.2.2.setCell (p := ⟨b4, 0, none⟩) z4 (.int .i64 0)).setCell (p := ⟨b4, 1, none⟩) z4 (.int .i64 0)).setCell (p := ⟨b5, 0, none⟩) z5 (.int .i64 3)).setCell (p := ⟨b5, 1, none⟩) z5 (.int .i64 1)
      exact ⟨((K1.out.2.1.set 0 0).other _ _ n54).alloc _ _, ((K1.out.2.2.1.other _ _ n45).set _ _).alloc _ _, h.alloc h.size _⟩
    clear h0 h1 h2 HPc HOk HC0 K1
    go_wp2
    have e1 := HF.out.1.c0
    have e2 := HF.out.1.c1
    have e3 := HF.out.2.1.c0
    have e4 := HF.out.2.1.c1
    exact bodyPost_ret (v := .tuple #[.agg #[.int .i64 0, .int .i64 0], .agg #[.int .i64 3, .int .i64 1]]) (by simp [results, Tryz.results8, go_sem, e1, e2, e3, e4]) rfl ⟨0, 0, by rw [HC.out], .inl ⟨by rw [HC.out]; simp, rfl, rfl⟩, HF.out.2.2⟩
  · have HC : Hid (nxf x y n = (3, 1)) := h3
    have tc : c0 = 0 := by rw [HC0.out, h0]
    subst tc
    have tn : decide (n < y) = false := decide_eq_false (by omega)
    have tn2 : decide (1000000 < n) = true := decide_eq_true h2
    have HF : Hid (Sv b4 0 0 (((((w1.setCell ⟨b4, 0, none⟩ (.int .i64 0)).setCell ⟨b4, 1, none⟩ (.int .i64 0)).setCell ⟨b5, 0, none⟩ (.int .i64 3)).setCell ⟨b5, 1, none⟩ (.int .i64 1)).alloc (.cells #[.int .i64 0, .int .i64 0] 25)) ∧ Sv b5 3 1 (((((w1.setCell ⟨b4, 0, none⟩ (.int .i64 0)).setCell ⟨b4, 1, none⟩ (.int .i64 0)).setCell ⟨b5, 0, none⟩ (.int .i64 3)).setCell ⟨b5, 1, none⟩ (.int .i64 1)).alloc (.cells #[.int .i64 0, .int .i64 0] 25)) ∧ Below w.heap.size w (((((w1.setCell ⟨b4, 0, none⟩ (.int .i64 0)).setCell ⟨b4, 1, none⟩ (.int .i64 0)).setCell ⟨b5, 0, none⟩ (.int .i64 3)).setCell ⟨b5, 1, none⟩ (.int .i64 1)).alloc (.cells #[.int .i64 0, .int .i64 0] 25))) := by
      have h := (((K1.out.2.2.2.setCell (p := ⟨b4, 0, none⟩) z4 (.int .i64 0)).setCell (p := ⟨b4, 1, none⟩) z4 (.int .i64 0)).setCell (p := ⟨b5, 0, none⟩) z5 (.int .i64 3)).setCell (p := ⟨b5, 1, none⟩) z5 (.int .i64 1)
      exact ⟨((K1.out.2.1.set 0 0).other _ _ n54).alloc _ _, ((K1.out.2.2.1.other _ _ n45).set _ _).alloc _ _, h.alloc h.size _⟩
    clear h0 h1 h2 h3 HPc HOk HC0 K1
    go_wp2
    have e1 := HF.out.1.c0
    have e2 := HF.out.1.c1
    have e3 := HF.out.2.1.c0
    have e4 := HF.out.2.1.c1
    exact bodyPost_ret (v := .tuple #[.agg #[.int .i64 0, .int .i64 0], .agg #[.int .i64 3, .int .i64 1]]) (by simp [results, Tryz.results8, go_sem, e1, e2, e3, e4]) rfl ⟨0, 0, by rw [HC.out], .inl ⟨by rw [HC.out]; simp, rfl, rfl⟩, HF.out.2.2⟩
  · have HC : Hid (nxf x y n = (9, 0)) := h4
    have h6 := HOk.out h0
    have tc : c0 = 0 := by rw [HC0.out, h0]
    subst tc
    have tn : decide (n < y) = false := decide_eq_false (by omega)
    have tn2 : decide (1000000 < n) = false := decide_eq_false (by omega)
    obtain ⟨nx, hnx⟩ : ∃ nx, nx = -x := ⟨_, rfl⟩
    have en : -x = nx := hnx.symm
    have wn : IntKind.i64.wrap nx = nx := by rw [IntKind.wrap_i64]; omega
    have tm : decide (1000000 < max x nx) = true := decide_eq_true (by omega)
    have HF : Hid (Sv b4 0 0 (((((w1.setCell ⟨b4, 0, none⟩ (.int .i64 0)).setCell ⟨b4, 1, none⟩ (.int .i64 0)).setCell ⟨b5, 0, none⟩ (.int .i64 9)).setCell ⟨b5, 1, none⟩ (.int .i64 0)).alloc (.cells #[.int .i64 0, .int .i64 0] 25)) ∧ Sv b5 9 0 (((((w1.setCell ⟨b4, 0, none⟩ (.int .i64 0)).setCell ⟨b4, 1, none⟩ (.int .i64 0)).setCell ⟨b5, 0, none⟩ (.int .i64 9)).setCell ⟨b5, 1, none⟩ (.int .i64 0)).alloc (.cells #[.int .i64 0, .int .i64 0] 25)) ∧ Below w.heap.size w (((((w1.setCell ⟨b4, 0, none⟩ (.int .i64 0)).setCell ⟨b4, 1, none⟩ (.int .i64 0)).setCell ⟨b5, 0, none⟩ (.int .i64 9)).setCell ⟨b5, 1, none⟩ (.int .i64 0)).alloc (.cells #[.int .i64 0, .int .i64 0] 25))) := by
      have h := (((K1.out.2.2.2.setCell (p := ⟨b4, 0, none⟩) z4 (.int .i64 0)).setCell (p := ⟨b4, 1, none⟩) z4 (.int .i64 0)).setCell (p := ⟨b5, 0, none⟩) z5 (.int .i64 9)).setCell (p := ⟨b5, 1, none⟩) z5 (.int .i64 0)
      exact ⟨((K1.out.2.1.set 0 0).other _ _ n54).alloc _ _, ((K1.out.2.2.1.other _ _ n45).set _ _).alloc _ _, h.alloc h.size _⟩
    clear h0 h1 h2 h3 h4 h6 HPc HOk HC0 K1 hnx
    go_wp2
    have e1 := HF.out.1.c0
    have e2 := HF.out.1.c1
    have e3 := HF.out.2.1.c0
    have e4 := HF.out.2.1.c1
    exact bodyPost_ret (v := .tuple #[.agg #[.int .i64 0, .int .i64 0], .agg #[.int .i64 9, .int .i64 0]]) (by simp [results, Tryz.results8, go_sem, e1, e2, e3, e4]) rfl ⟨0, 0, by rw [HC.out], .inl ⟨by rw [HC.out]; simp, rfl, rfl⟩, HF.out.2.2⟩
  · have HC : Hid (nxf x y n = (0, 0)) := h5
    have h6 := HOk.out h0
    have tc : c0 = 0 := by rw [HC0.out, h0]
    subst tc
    have tn : decide (n < y) = false := decide_eq_false (by omega)
    have tn2 : decide (1000000 < n) = false := decide_eq_false (by omega)
    obtain ⟨nx, hnx⟩ : ∃ nx, nx = -x := ⟨_, rfl⟩
    have en : -x = nx := hnx.symm
    have wn : IntKind.i64.wrap nx = nx := by rw [IntKind.wrap_i64]; omega
    have tm : decide (1000000 < max x nx) = false := decide_eq_false (by omega)
    have HNx : Hid (∀ W, Calls Tryz.prog 38 #[.agg #[.int .i64 x, .int .i64 y], .int .i64 n] W fun e w' => ∃ c d : Int, e = .returned (.agg #[.int .i64 c, .int .i64 d]) ∧ (c * y - x * d = 1 ∧ 1 ≤ d ∧ d ≤ n ∧ n < d + y) ∧ Below W.heap.size W w') := fun W => next_any x y n W (by omega) h6.2.2.1 h1 h2 h6.2.2.2.2
    clear h0 h1 h2 h3 h4 h5 h6 HPc HOk HC0 hnx
    go_wp2_with fail
    refine (HNx.out _).mono ?_
    rintro e w2 ⟨c, d, rfl, hcd, k2⟩
    have k12 : Below w1.heap.size w1 (w1.alloc (.cells #[.int .i64 0, .int .i64 0] 25)) := (Below.refl _ _).alloc (Nat.le_refl _) _
    have k3 : Below w1.heap.size w1 w2 := k12.trans (k2.mono k12.size)
    have K2 : Hid (Sv b4 0 0 w2 ∧ Sv b5 0 0 w2 ∧ Below w.heap.size w w2) := ⟨K1.out.2.1.below k3, K1.out.2.2.1.below k3, K1.out.2.2.2.trans (k3.mono K1.out.2.2.2.size)⟩
    have HO : Hid (NxOut x y n c d) := .inr ⟨by rw [HC.out], hcd⟩
    clear k12 k2 k3 hcd K1 p0 p1 p2 r0 r1 r2 r3 r4 r5 r6 r7 r8 r9
    have r0 := K2.out.1.c0
    have r1 := K2.out.1.c1
    have r2 := K2.out.1.f0
    have r3 := K2.out.1.f1
    have r4 := K2.out.2.1.c0
    have r5 := K2.out.2.1.c1
    have r6 := K2.out.2.1.f0
    have r7 := K2.out.2.1.f1
    have r8 := K2.out.1.lt
    have r9 := K2.out.2.1.lt
    have HF : Hid (Sv b4 c d ((((w2.setCell ⟨b4, 0, none⟩ (.int .i64 c)).setCell ⟨b4, 1, none⟩ (.int .i64 d)).setCell ⟨b5, 0, none⟩ (.int .i64 0)).setCell ⟨b5, 1, none⟩ (.int .i64 0)) ∧ Sv b5 0 0 ((((w2.setCell ⟨b4, 0, none⟩ (.int .i64 c)).setCell ⟨b4, 1, none⟩ (.int .i64 d)).setCell ⟨b5, 0, none⟩ (.int .i64 0)).setCell ⟨b5, 1, none⟩ (.int .i64 0)) ∧ Below w.heap.size w ((((w2.setCell ⟨b4, 0, none⟩ (.int .i64 c)).setCell ⟨b4, 1, none⟩ (.int .i64 d)).setCell ⟨b5, 0, none⟩ (.int .i64 0)).setCell ⟨b5, 1, none⟩ (.int .i64 0))) :=
      ⟨(K2.out.1.set _ _).other _ _ n54, (K2.out.2.1.other _ _ n45).set _ _, (((K2.out.2.2.setCell z4 _).setCell z4 _).setCell z5 _).setCell z5 _⟩
    clear K2
    go_wp2
    have e1 := HF.out.1.c0
    have e2 := HF.out.1.c1
    have e3 := HF.out.2.1.c0
    have e4 := HF.out.2.1.c1
    exact bodyPost_ret (v := .tuple #[.agg #[.int .i64 c, .int .i64 d], .agg #[.int .i64 0, .int .i64 0]]) (by simp [results, Tryz.results8, go_sem, e1, e2, e3, e4]) rfl ⟨c, d, by rw [HC.out], HO.out, HF.out.2.2⟩
end Go.Proofs.YtcnfhndejkngkaaGreatDoor
