import Derived.Test.YtcnfhndejkngkaaGreatDoorJzA
import Derived.Test.YtcnfhndejkngkaaGreatDoorJzF
import Derived.Deep.LoopGhost
import Derived.Test.YtcnfhndejkngkaaGreatDoorJzG
import Derived.Test.YtcnfhndejkngkaaGreatDoorJzD
import Derived.Test.YtcnfhndejkngkaaGreatDoorJzH
import Derived.BigQuiet
section
/- The reference's Fibonacci. -/
set_option linter.unusedSimpArgs false
set_option linter.unusedVariables false
set_option maxRecDepth 100000
namespace Go.Proofs.YtcnfhndejkngkaaGreatDoor
open Go.RowKit

set_option maxHeartbeats 1000000 in
theorem Fibonacci_any (k : Nat) (w : World) (hk : k ≤ 90) :
    Calls Tryz.prog 36 #[.int .i64 (k : Int)] w fun e w' => e = .returned (.int .i64 ((FZ.fib k : Nat) : Int)) ∧ w' = w := by
  go_enter Tryz.func36, Tryz.ntmps36
  go_wp2
  go_loopg [3, 4, 5] k (fun gk av bv iv wx => ∃ i : Nat, av = .int .i64 ((FZ.fib i : Nat) : Int) ∧ bv = .int .i64 ((FZ.fib (i + 1) : Nat) : Int) ∧ iv = .int .i64 (i : Int) ∧ Hid (gk = k - i ∧ i ≤ k ∧ wx = w))
  case atStart => exact ⟨0, rfl, rfl, rfl, rfl, by omega, rfl⟩
  case round =>
    obtain ⟨i, rfl, rfl, rfl, HQ⟩ := hrel
    obtain ⟨h1, h2, h3⟩ := HQ.out
    have HG : Hid (gk = k - i) := h1
    subst h3
    clear HQ h1
    by_cases hi : i < k
    · have HI : Hid (i < k) := hi
      have ti : decide ((i : Int) < (k : Int)) = true := decide_eq_true (by omega)
      have hb : FZ.fib (i + 1 + 1) ≤ 4660046610375530309 := by rw [← FZ.fib_91]; exact FZ.fib_le (by omega) (by omega)
      have hs : ((FZ.fib i : Nat) : Int) + ((FZ.fib (i + 1) : Nat) : Int) = ((FZ.fib (i + 1 + 1) : Nat) : Int) := by rw [← Int.natCast_add]; rfl
      have hw : IntKind.i64.wrap ((FZ.fib (i + 1 + 1) : Nat) : Int) = ((FZ.fib (i + 1 + 1) : Nat) : Int) := by rw [IntKind.wrap_i64]; omega
      clear hb
      go_wp2
      go_roundg (k - (i + 1))
      case rel => exact ⟨i + 1, rfl, rfl, by go_num, rfl, by have := HI.out; omega, rfl⟩
      case measure => have := HG.out; have := HI.out; omega
    · have ti : decide ((i : Int) < (k : Int)) = false := decide_eq_false (by omega)
      obtain rfl : k = i := by omega
      go_wp2
      go_ret
      exact ⟨rfl, rfl⟩

end Go.Proofs.YtcnfhndejkngkaaGreatDoor
end

section
/- The law FracZeckendorf, out of what is asked of the code: Zeck, and the examples fracBegun. -/
set_option linter.unusedSimpArgs false
set_option linter.unusedVariables false
set_option maxRecDepth 100000
namespace Go.Proofs.YtcnfhndejkngkaaGreatDoor
open Go.RowKit

/-- What is asked of Zeck. -/
def ZeckIs (n : Nat) (w : World) : Prop := Calls Tryz.prog 34 #[.int .i64 (n : Int)] w fun e w' => ∃ (l : List Nat) (a : Option Addr) (g o cap : Nat), e = .returned (.tuple #[.slice a l.length cap, .agg #[.int .i64 0, .int .i64 0]]) ∧ FZ.Zk l n ∧ (0 < l.length → a = some ⟨g, o, none⟩ ∧ g < w'.heap.size) ∧ (∀ i, i < l.length → w'.cell? ⟨g, o + i, none⟩ = some (.int .i64 ((l.getD i 0 : Nat) : Int))) ∧ Below w.heap.size w w'

set_option maxHeartbeats 4000000 in
theorem zeck_bad (n : Int) (w : World) (hn : n < 0 ∨ 1000000000000000000 < n) (hZ : Calls Tryz.prog 34 #[.int .i64 n] w fun e w' => e = .returned (.tuple #[.slice none 0 0, .agg #[.int .i64 3, .int .i64 0]]) ∧ Below w.heap.size w w') (hBg : ∀ W, Below w.heap.size w W → Calls Tryz.prog 11 #[] W fun e w' => e = .returned (.bool true) ∧ Below W.heap.size W w') :
    Calls Tryz.prog 7 #[.int .i64 n] w fun e w' => e = .returned (.bool true) ∧ Below w.heap.size w w' := by
  have HZ : Hid (Calls Tryz.prog 34 #[.int .i64 n] w fun e w' => e = .returned (.tuple #[.slice none 0 0, .agg #[.int .i64 3, .int .i64 0]]) ∧ Below w.heap.size w w') := hZ
  have HBg : Hid (∀ W, Below w.heap.size w W → Calls Tryz.prog 11 #[] W fun e w' => e = .returned (.bool true) ∧ Below W.heap.size W w') := hBg
  have HNb : Hid (∀ W, ¬ n < 0 → Calls Tryz.prog 35 #[.int .i64 n] W fun e w' => e = .returned (.bool false) ∧ w' = W) := fun W h0 => by
    refine (number_any n W).mono ?_
    rintro e w' ⟨rfl, hw⟩
    refine ⟨?_, hw⟩
    have : numB n = false := by unfold numB; simp; omega
    rw [this]
  clear hZ hBg hn
  go_enter Tryz.func7, Tryz.ntmps7
  go_wp2_with fail
  refine HZ.out.mono ?_
  rintro e w1 ⟨rfl, k1⟩
  obtain ⟨b4, hb4⟩ : ∃ b4, b4 = w1.heap.size := ⟨_, rfl⟩
  obtain ⟨W2, hW2⟩ : ∃ W2, W2 = w1.alloc (.cells #[.int .i64 3, .int .i64 0] 25) := ⟨_, rfl⟩
  have K2 : Hid (Sv b4 3 0 W2 ∧ Below w.heap.size w W2) := by
    show _ ∧ _
    rw [hW2, hb4]
    exact ⟨Sv.new 3 0 w1, k1.alloc k1.size _⟩
  clear k1 HZ
  go_wp2_with fail
  rw [← hW2]
  rw [← hb4]
  clear hW2 hb4
  refine (HBg.out _ K2.out.2).mono ?_
  rintro e w3 ⟨rfl, k3⟩
  have K3 : Hid (Sv b4 3 0 w3 ∧ Below w.heap.size w w3) := ⟨K2.out.1.below k3, K2.out.2.trans (k3.mono K2.out.2.size)⟩
  have HR : Hid (∀ W, Below w3.heap.size w3 W → W.cell? ⟨b4, 0, none⟩ = some (.int .i64 3) ∧ W.cell? ⟨b4, 1, none⟩ = some (.int .i64 0)) := fun W kk => ⟨(K3.out.1.below kk).c0, (K3.out.1.below kk).c1⟩
  clear k3 K2 HBg
  by_cases h0 : n < 0
  · have d0 : decide (n < 0) = true := decide_eq_true h0
    go_wp2
    refine wp_region_G (fun W => W.cell? ⟨b4, 0, none⟩ = some (.int .i64 3) ∧ W.cell? ⟨b4, 1, none⟩ = some (.int .i64 0)) 8 (by kernel_rfl) (HR.out _ (Below.refl _ _).drew) (fun hHeld => ?_)
    refine wpAnyG_take (i := 0) (v := ?v0x1) rfl (by kernel_rfl) (fun _ _ _ h => h) (Or.inl ⟨by rfl, ?y0x1⟩) hHeld ?r0x1
    case y0x1 => (intro wS hSw; obtain ⟨s1, s2⟩ := hSw; go_simp; try with_reducible rfl)
    simp only [Act.put, List.getElem_toArray, List.getElem_cons_zero, List.getElem_cons_succ, List.setIfInBounds_toArray, List.set_cons_zero, List.set_cons_succ]
    refine wpAnyG_one (i := 1) rfl (by kernel_rfl) (fun K hK => ?_)
    go_simp
    refine (F_any 3 0 _).mono ?_
    rintro e w4 ⟨rfl, k4⟩
    have HK4 : Hid (Below w3.heap.size w3 w4) := (Below.refl _ _).drew.trans k4
    clear k4
    refine hK.out _ _ (HR.out _ HK4.out) ?_
    clear hK K hHeld
    have hHeld := HR.out _ HK4.out
    refine wpAnyG_take (i := 2) (v := .bool true) rfl (by kernel_rfl) (fun _ _ _ h => h) (Or.inl ⟨by kernel_rfl, ?y2x2⟩) hHeld ?r2x2
    case y2x2 => (intro wS hSw; (go_simp))
    simp only [Act.put, List.getElem_toArray, List.getElem_cons_zero, List.getElem_cons_succ, List.setIfInBounds_toArray, List.set_cons_zero, List.set_cons_succ]
    refine wpAnyG_take (i := 3) (v := .bool true) rfl (by kernel_rfl) (fun _ _ _ h => h) (Or.inl ⟨by kernel_rfl, ?y3x3⟩) hHeld ?r3x3
    case y3x3 => (intro wS hSw; (go_simp))
    simp only [Act.put, List.getElem_toArray, List.getElem_cons_zero, List.getElem_cons_succ, List.setIfInBounds_toArray, List.set_cons_zero, List.set_cons_succ]
    refine wpAnyG_take (i := 4) (v := ?v4x4) rfl (by kernel_rfl) (fun _ _ _ h => h) (Or.inl ⟨by kernel_rfl, ?y4x4⟩) hHeld ?r4x4
    case y4x4 => (intro wS hSw; have s1 := hSw; go_simp; try with_reducible rfl)
    simp only [Act.put, List.getElem_toArray, List.getElem_cons_zero, List.getElem_cons_succ, List.setIfInBounds_toArray, List.set_cons_zero, List.set_cons_succ]
    refine wpAnyG_take (i := 5) (v := ?v5x5) rfl (by kernel_rfl) (fun _ _ _ h => h) (Or.inl ⟨by kernel_rfl, ?y5x5⟩) hHeld ?r5x5
    case y5x5 => (intro wS hSw; have s1 := hSw; go_simp; try with_reducible rfl)
    simp only [Act.put, List.getElem_toArray, List.getElem_cons_zero, List.getElem_cons_succ, List.setIfInBounds_toArray, List.set_cons_zero, List.set_cons_succ]
    refine wpAnyG_take (i := 6) (v := ?v6x6) rfl (by kernel_rfl) (fun _ _ _ h => h) (Or.inl ⟨by kernel_rfl, ?y6x6⟩) hHeld ?r6x6
    case y6x6 => (intro wS hSw; have s1 := hSw; go_simp; try with_reducible rfl)
    simp only [Act.put, List.getElem_toArray, List.getElem_cons_zero, List.getElem_cons_succ, List.setIfInBounds_toArray, List.set_cons_zero, List.set_cons_succ]
    refine wpAnyG_take (i := 7) (v := .bool true) rfl (by kernel_rfl) (fun _ _ _ h => h) (Or.inl ⟨by kernel_rfl, ?y7x7⟩) hHeld ?r7x7
    case y7x7 => (intro wS hSw; (go_simp))
    simp only [Act.put, List.getElem_toArray, List.getElem_cons_zero, List.getElem_cons_succ, List.setIfInBounds_toArray, List.set_cons_zero, List.set_cons_succ]
    refine wpAnyG_last (i := 8) rfl (by kernel_rfl) (by kernel_rfl) (fun K hK => ?_)
    go_simp
    refine hK.out _ _ ?_
    clear hK K
    refine wpAnyG_done (by kernel_rfl) ?_ _
    clear hHeld
    go_wp2
    go_ret
    exact ⟨rfl, K3.out.2.trans (HK4.out.mono K3.out.2.size)⟩
  · have d0 : decide (n < 0) = false := decide_eq_false h0
    go_wp2_with fail
    refine (HNb.out _ h0).mono ?_
    rintro e wn ⟨rfl, hwn⟩
    have hw2 := hwn.symm
    subst hw2
    go_wp2
    refine wp_region_G (fun W => W.cell? ⟨b4, 0, none⟩ = some (.int .i64 3) ∧ W.cell? ⟨b4, 1, none⟩ = some (.int .i64 0)) 8 (by kernel_rfl) (HR.out _ (Below.refl _ _).drew) (fun hHeld => ?_)
    refine wpAnyG_take (i := 0) (v := ?v0x8) rfl (by kernel_rfl) (fun _ _ _ h => h) (Or.inl ⟨by rfl, ?y0x8⟩) hHeld ?r0x8
    case y0x8 => (intro wS hSw; obtain ⟨s1, s2⟩ := hSw; go_simp; try with_reducible rfl)
    simp only [Act.put, List.getElem_toArray, List.getElem_cons_zero, List.getElem_cons_succ, List.setIfInBounds_toArray, List.set_cons_zero, List.set_cons_succ]
    refine wpAnyG_one (i := 1) rfl (by kernel_rfl) (fun K hK => ?_)
    go_simp
    refine (F_any 3 0 _).mono ?_
    rintro e w4 ⟨rfl, k4⟩
    have HK4 : Hid (Below w3.heap.size w3 w4) := (Below.refl _ _).drew.trans k4
    clear k4
    refine hK.out _ _ (HR.out _ HK4.out) ?_
    clear hK K hHeld
    have hHeld := HR.out _ HK4.out
    refine wpAnyG_take (i := 2) (v := .bool true) rfl (by kernel_rfl) (fun _ _ _ h => h) (Or.inl ⟨by kernel_rfl, ?y2x9⟩) hHeld ?r2x9
    case y2x9 => (intro wS hSw; (go_simp))
    simp only [Act.put, List.getElem_toArray, List.getElem_cons_zero, List.getElem_cons_succ, List.setIfInBounds_toArray, List.set_cons_zero, List.set_cons_succ]
    refine wpAnyG_take (i := 3) (v := .bool true) rfl (by kernel_rfl) (fun _ _ _ h => h) (Or.inl ⟨by kernel_rfl, ?y3x10⟩) hHeld ?r3x10
    case y3x10 => (intro wS hSw; (go_simp))
    simp only [Act.put, List.getElem_toArray, List.getElem_cons_zero, List.getElem_cons_succ, List.setIfInBounds_toArray, List.set_cons_zero, List.set_cons_succ]
    refine wpAnyG_take (i := 4) (v := ?v4x11) rfl (by kernel_rfl) (fun _ _ _ h => h) (Or.inl ⟨by kernel_rfl, ?y4x11⟩) hHeld ?r4x11
    case y4x11 => (intro wS hSw; have s1 := hSw; go_simp; try with_reducible rfl)
    simp only [Act.put, List.getElem_toArray, List.getElem_cons_zero, List.getElem_cons_succ, List.setIfInBounds_toArray, List.set_cons_zero, List.set_cons_succ]
    refine wpAnyG_take (i := 5) (v := ?v5x12) rfl (by kernel_rfl) (fun _ _ _ h => h) (Or.inl ⟨by kernel_rfl, ?y5x12⟩) hHeld ?r5x12
    case y5x12 => (intro wS hSw; have s1 := hSw; go_simp; try with_reducible rfl)
    simp only [Act.put, List.getElem_toArray, List.getElem_cons_zero, List.getElem_cons_succ, List.setIfInBounds_toArray, List.set_cons_zero, List.set_cons_succ]
    refine wpAnyG_take (i := 6) (v := ?v6x13) rfl (by kernel_rfl) (fun _ _ _ h => h) (Or.inl ⟨by kernel_rfl, ?y6x13⟩) hHeld ?r6x13
    case y6x13 => (intro wS hSw; have s1 := hSw; go_simp; try with_reducible rfl)
    simp only [Act.put, List.getElem_toArray, List.getElem_cons_zero, List.getElem_cons_succ, List.setIfInBounds_toArray, List.set_cons_zero, List.set_cons_succ]
    refine wpAnyG_take (i := 7) (v := .bool true) rfl (by kernel_rfl) (fun _ _ _ h => h) (Or.inl ⟨by kernel_rfl, ?y7x14⟩) hHeld ?r7x14
    case y7x14 => (intro wS hSw; (go_simp))
    simp only [Act.put, List.getElem_toArray, List.getElem_cons_zero, List.getElem_cons_succ, List.setIfInBounds_toArray, List.set_cons_zero, List.set_cons_succ]
    refine wpAnyG_last (i := 8) rfl (by kernel_rfl) (by kernel_rfl) (fun K hK => ?_)
    go_simp
    refine hK.out _ _ ?_
    clear hK K
    refine wpAnyG_done (by kernel_rfl) ?_ _
    clear hHeld
    go_wp2
    go_ret
    exact ⟨rfl, K3.out.2.trans (HK4.out.mono K3.out.2.size)⟩

set_option maxHeartbeats 8000000 in
theorem zeck_ok (nN : Nat) (w : World) (hn : nN ≤ 1000000000000000000) (hZ : ZeckIs nN w) (hBg : ∀ W, Below w.heap.size w W → Calls Tryz.prog 11 #[] W fun e w' => e = .returned (.bool true) ∧ Below W.heap.size W w') :
    Calls Tryz.prog 7 #[.int .i64 (nN : Int)] w fun e w' => e = .returned (.bool true) ∧ Below w.heap.size w w' := by
  have HZ : Hid (ZeckIs nN w) := hZ
  have HBg : Hid (∀ W, Below w.heap.size w W → Calls Tryz.prog 11 #[] W fun e w' => e = .returned (.bool true) ∧ Below W.heap.size W w') := hBg
  have HNb : Hid (∀ W, Calls Tryz.prog 35 #[.int .i64 (nN : Int)] W fun e w' => e = .returned (.bool true) ∧ w' = W) := fun W => by
    refine (number_any (nN : Int) W).mono ?_
    rintro e w' ⟨rfl, hw⟩
    refine ⟨?_, hw⟩
    have : numB (nN : Int) = true := by unfold numB; simp; omega
    rw [this]
  have d0 : decide ((nN : Int) < 0) = false := decide_eq_false (by omega)
  clear hZ hBg
  go_enter Tryz.func7, Tryz.ntmps7
  go_wp2_with fail
  refine HZ.out.mono ?_
  rintro e w1 ⟨L, aL, gL, oL, cL, rfl, hZk, hgL, hcL, k1⟩
  obtain ⟨N, hN⟩ : ∃ N, N = L.length := ⟨_, rfl⟩
  have HN : Hid (N = L.length) := hN
  have hb0 := k1.size
  have HL : Hid (FZ.Zk L nN ∧ (0 < N → aL = some ⟨gL, oL, none⟩) ∧ ∀ W, Below w1.heap.size w1 W → ∀ i, i < N → W.cell? ⟨gL, oL + i, none⟩ = some (.int .i64 ((L.getD i 0 : Nat) : Int))) :=
    ⟨hZk, fun h => (hgL (by omega)).1, fun W kk i hi => (kk.cell (p := ⟨gL, oL + i, none⟩) (hgL (by omega)).2).trans (hcL i (by omega))⟩
  rw [← hN]
  have hNl : N ≤ 100 := by
    rcases Nat.lt_or_ge 100 N with h | h
    · have h1 : ∀ i, i < N → L.getD i 0 + 2 * i ≤ 90 := by
        intro i
        induction i with
        | zero => intro h2; have := (hZk.low 0 (by omega)).2; omega
        | succ i ih => intro h2; have := hZk.gap (i + 1) (by omega) (by omega); have := ih (by omega); simp at this; simp at *; omega
      have := h1 100 h
      omega
    · exact h
  obtain ⟨b4, hb4⟩ : ∃ b4, b4 = w1.heap.size := ⟨_, rfl⟩
  obtain ⟨W2, hW2⟩ : ∃ W2, W2 = w1.alloc (.cells #[.int .i64 0, .int .i64 0] 25) := ⟨_, rfl⟩
  have K2 : Hid (Sv b4 0 0 W2 ∧ Below w.heap.size w W2 ∧ Below w1.heap.size w1 W2) := by
    show _ ∧ _
    rw [hW2, hb4]
    exact ⟨Sv.new 0 0 w1, k1.alloc k1.size _, (Below.refl _ _).alloc (Nat.le_refl _) _⟩
  clear k1 HZ hZk hgL hcL hN
  go_wp2_with fail
  rw [← hW2]
  rw [← hb4]
  clear hW2 hb4
  refine (HBg.out _ K2.out.2.1).mono ?_
  rintro e w3 ⟨rfl, k3⟩
  have K3 : Hid (Sv b4 0 0 w3 ∧ Below w.heap.size w w3 ∧ Below w1.heap.size w1 w3) := ⟨K2.out.1.below k3, K2.out.2.1.trans (k3.mono K2.out.2.1.size), K2.out.2.2.trans (k3.mono K2.out.2.2.size)⟩
  clear k3 K2 HBg
  go_wp2_with fail
  refine (HNb.out _).mono ?_
  rintro e wn ⟨rfl, hwn⟩
  have hw2 := hwn.symm
  subst hw2
  obtain ⟨t0, t1, t2, t3, t4⟩ := K3.out.1
  go_wp2
  go_loopg [5, 6] N (fun gk sv iv wx => ∃ i : Nat, sv = .int .i64 ((FZ.sm (L.take i) : Nat) : Int) ∧ iv = .int .i64 (i : Int) ∧ Hid (gk = N - i ∧ i ≤ N ∧ Below w3.heap.size w3 wx))
  case atStart => exact ⟨0, rfl, rfl, rfl, by omega, Below.refl _ _⟩
  case round =>
    clear t0 t1 t2 t3 t4
    obtain ⟨i, rfl, rfl, HQ⟩ := hrel
    obtain ⟨h1, h2, h3⟩ := HQ.out
    have HG : Hid (gk = N - i) := h1
    have HX : Hid (Below w3.heap.size w3 wr) := h3
    clear HQ h1 h3
    by_cases hi : i < N
    · have HI : Hid (i < N) := hi
      have ti : decide ((i : Int) < (N : Int)) = true := decide_eq_true (by omega)
      obtain rfl := HL.out.2.1 (by omega)
      have kw : Below w1.heap.size w1 wr := K3.out.2.2.trans (HX.out.mono K3.out.2.2.size)
      have hlow := HL.out.1.low i (by rw [← HN.out]; exact hi)
      obtain ⟨x, hx⟩ : ∃ x, x = L.getD i 0 := ⟨_, rfl⟩
      have q1 : wr.cell? ⟨gL, oL + i, none⟩ = some (.int .i64 (x : Int)) := by rw [hx]; exact HL.out.2.2 wr kw i hi
      rw [← hx] at hlow
      have HXx : Hid (x = L.getD i 0) := hx
      have x2 : decide ((x : Int) < 2) = false := decide_eq_false (by omega)
      have x90 : decide (90 < (x : Int)) = false := decide_eq_false (by omega)
      clear hx
      have hsm : FZ.sm (L.take i) + FZ.fib x = FZ.sm (L.take (i + 1)) := by rw [HXx.out]; exact (FZ.sm_take L i (by rw [← HN.out]; exact hi)).symm
      have hle : FZ.sm (L.take (i + 1)) ≤ nN := by rw [← HL.out.1.sum]; exact FZ.sm_take_le L (i + 1)
      have hsi : ((FZ.sm (L.take i) : Nat) : Int) + ((FZ.fib x : Nat) : Int) = ((FZ.sm (L.take (i + 1)) : Nat) : Int) := by rw [← Int.natCast_add, hsm]
      have hws : IntKind.i64.wrap ((FZ.sm (L.take (i + 1)) : Nat) : Int) = ((FZ.sm (L.take (i + 1)) : Nat) : Int) := by rw [IntKind.wrap_i64]; omega
      have dle : decide ((nN : Int) < ((FZ.sm (L.take (i + 1)) : Nat) : Int)) = false := decide_eq_false (by omega)
      have HFb : Hid (∀ W, Calls Tryz.prog 36 #[.int .i64 (x : Int)] W fun e w' => e = .returned (.int .i64 ((FZ.fib x : Nat) : Int)) ∧ w' = W) := fun W => Fibonacci_any x W hlow.2
      obtain ⟨s0, hs0⟩ : ∃ s0, s0 = FZ.sm (L.take i) := ⟨_, rfl⟩
      obtain ⟨s1, hs1⟩ : ∃ s1, s1 = FZ.sm (L.take (i + 1)) := ⟨_, rfl⟩
      have HS1 : Hid (s1 = FZ.sm (L.take (i + 1))) := hs1
      rw [← hs0, ← hs1] at hsi
      rw [← hs1] at hws dle
      rw [← hs0]
      have dln : decide (nN < s1) = false := decide_eq_false (by rw [hs1]; omega)
      have hle1 : ¬ nN < s1 := by rw [hs1]; omega
      clear hlow hsm hle hs0 hs1
      by_cases h0 : i = 0
      · have t0 : decide (0 < (i : Int)) = false := decide_eq_false (by omega)
        have t0n : decide (0 < i) = false := decide_eq_false (by omega)
        have HI0 : Hid (i = 0) := h0
        clear h0
        go_wp2_with fail
        go_quiet (fail)
        go_wp2_with fail
        refine (HFb.out _).mono ?_
        rintro e w8 ⟨rfl, hw8⟩
        have hw9 := hw8.symm
        subst hw9
        go_wp2
        go_roundg (N - (i + 1))
        case rel => exact ⟨i + 1, by rw [← HS1.out], by go_num, rfl, by have := HI.out; omega, below_drewN' HX.out⟩
        case measure => have := HG.out; have := HI.out; omega
      · obtain ⟨p, hp⟩ : ∃ p, i = p + 1 := ⟨i - 1, by omega⟩
        have t0 : decide (0 < (i : Int)) = true := decide_eq_true (by omega)
        have t0n : decide (0 < i) = true := decide_eq_true (by omega)
        have hpN : p < N := by omega
        have hip : (i : Int) - 1 = (p : Int) := by omega
        obtain ⟨y, hy⟩ : ∃ y, y = L.getD p 0 := ⟨_, rfl⟩
        have c1 : wr.cell? ⟨gL, oL + p, none⟩ = some (.int .i64 (y : Int)) := by rw [hy]; exact HL.out.2.2 wr kw p hpN
        have hgap : x + 2 ≤ y := by
          have := HL.out.1.gap i (by omega) (by rw [← HN.out]; exact hi)
          rw [show i - 1 = p by omega, ← hy, ← HXx.out] at this
          exact this
        have hyl : y ≤ 90 := by rw [hy]; exact (HL.out.1.low p (by rw [← HN.out]; exact hpN)).2
        have hwp : IntKind.i64.wrap (p : Int) = (p : Int) := by rw [IntKind.wrap_i64]; omega
        obtain ⟨x2', hx2'⟩ : ∃ x2', x2' = x + 2 := ⟨_, rfl⟩
        have hxx : (x : Int) + 2 = (x2' : Int) := by omega
        have hwx : IntKind.i64.wrap (x2' : Int) = (x2' : Int) := by rw [IntKind.wrap_i64]; omega
        have t3 : decide ((y : Int) < (x2' : Int)) = false := decide_eq_false (by omega)
        have t3n : decide (y < x2') = false := decide_eq_false (by omega)
        clear hy hp h0 hgap hyl hx2'
        go_wp2_with fail
        go_quiet (fail)
        go_wp2_with fail
        refine (HFb.out _).mono ?_
        rintro e w8 ⟨rfl, hw8⟩
        have hw9 := hw8.symm
        subst hw9
        go_wp2
        go_roundg (N - (i + 1))
        case rel => exact ⟨i + 1, by rw [← HS1.out], by go_num, rfl, by have := HI.out; omega, below_drewN' HX.out⟩
        case measure => have := HG.out; have := HI.out; omega
    · have ti : decide ((i : Int) < (N : Int)) = false := decide_eq_false (by omega)
      have e : FZ.sm (L.take i) = nN := by
        rw [show i = L.length by have := HN.out; omega, List.take_length]
        exact HL.out.1.sum
      have HX2 : Hid (Below w.heap.size w wr) := K3.out.2.1.trans (HX.out.mono K3.out.2.1.size)
      rw [e]
      clear e
      go_wp2
      go_ret
      exact ⟨rfl, HX2.out⟩

end Go.Proofs.YtcnfhndejkngkaaGreatDoor
end
