import Derived.Test.YtnkjadpmigpneaaGreatDoorJnT
import Derived.Test.YtnkjadpmigpneaaGreatDoorJnB
import Derived.Test.YtnkjadpmigpneaaGreatDoorJnD
import Derived.Test.YtnkjadpmigpneaaGreatDoorJnV
import Derived.BigRegion
import Derived.Test.YtnkjadpmigpneaaGreatDoorLgK
import Derived.Deep.LoopGhost
section
/- Package bern: Number, Sums, Sum, Sets out of bounds; Sum. Written by mkbri.py. -/
set_option linter.unusedSimpArgs false
set_option linter.unusedVariables false
set_option maxRecDepth 100000
namespace Go.Proofs.YtnkjadpmigpneaaGreatDoor
open Go.RowKit LgM

theorem bel_oneB (w : World) (o : Obj) : Below w.heap.size w (w.alloc o) := Below.alloc (Below.refl _ _) (Nat.le_refl _) o
theorem nb_oneB (lo hi n : Int) : nb lo hi 0 [n] = if lo ≤ n ∧ n ≤ hi then (0, 0) else (3, 0) := by
  by_cases h : lo ≤ n ∧ n ≤ hi
  · rw [if_pos h]
    exact nb_none lo hi [n] (fun j hj => by obtain rfl : j = 0 := by simpa using hj
                                            simp [bwB]; omega)
  · rw [if_neg h]
    have := nb_hit lo hi [n] 0 (by simp) (fun j hj => by omega) (by simp [bwB]; omega)
    simpa using this
theorem nb_twoB (lo hi n k : Int) : nb lo hi 0 [n, k] = if lo ≤ n ∧ n ≤ hi then (if lo ≤ k ∧ k ≤ hi then (0, 0) else (3, 1)) else (3, 0) := by
  by_cases h : lo ≤ n ∧ n ≤ hi
  · rw [if_pos h]
    by_cases h2 : lo ≤ k ∧ k ≤ hi
    · rw [if_pos h2]
      exact nb_none lo hi [n, k] (fun j hj => by
        have : j = 0 ∨ j = 1 := by simp at hj; omega
        rcases this with rfl | rfl <;> simp [bwB] <;> omega)
    · rw [if_neg h2]
      have := nb_hit lo hi [n, k] 1 (by simp) (fun j hj => by obtain rfl : j = 0 := by omega
                                                              simp [bwB]; omega) (by simp [bwB]; omega)
      simpa using this
  · rw [if_neg h]
    have := nb_hit lo hi [n, k] 0 (by simp) (fun j hj => by omega) (by simp [bwB]; omega)
    simpa using this
theorem one_cellB (n : Int) (W : World) : ∀ j, j < [n].length → (W.alloc (.cells #[.int .i64 n] 3)).cell? ⟨W.heap.size, 0 + j, none⟩ = some (.int .i64 ([n].getD j 0)) := by
  intro j hj
  obtain rfl : j = 0 := by simpa using hj
  simp
theorem two_cellB (n k : Int) (w : World) : ∀ j, j < [n, k].length → (w.alloc (.cells #[.int .i64 n, .int .i64 k] 3)).cell? ⟨w.heap.size, 0 + j, none⟩ = some (.int .i64 ([n, k].getD j 0)) := by
  intro j hj
  have : j = 0 ∨ j = 1 := by simp at hj; omega
  rcases this with rfl | rfl <;> simp

set_option maxHeartbeats 2000000 in
theorem Number_bad (n : Int) (w : World) (hn : n < 0 ∨ 200 < n) :
    Calls Tryz.prog 7 #[.int .i64 n] w fun e w' => e = .returned (.tuple #[.string ⟨#[]⟩, .agg #[.int .i64 3, .int .i64 0]]) ∧ Below w.heap.size w w' := by
  have HB : Hid (∀ W : World, Calls Tryz.prog 35 #[.int .i64 0, .int .i64 200, .slice (some ⟨W.heap.size, 0, none⟩) 1 1] (W.alloc (.cells #[.int .i64 n] 3)) fun e w' => e = .returned (.agg #[.int .i64 3, .int .i64 0]) ∧ Below (W.heap.size + 1) (W.alloc (.cells #[.int .i64 n] 3)) w') := fun W => by
    have := between_any 0 200 [n] W.heap.size 0 1 (W.alloc (.cells #[.int .i64 n] 3)) (by simp) (by simp) (one_cellB n W)
    rw [nb_oneB, if_neg (by omega)] at this
    simpa using this
  clear hn
  go_enter Tryz.func7, Tryz.ntmps7
  obtain ⟨W0, hW0⟩ : ∃ W, w.alloc (.cells #[.int .i64 0, .int .i64 0] 23) = W := ⟨_, rfl⟩
  have S0 := Sv.new 0 0 w
  have k0 := bel_oneB w (.cells #[.int .i64 0, .int .i64 0] 23)
  have z0 : W0.heap.size = w.heap.size + 1 := by rw [← hW0]; simp
  rw [hW0] at S0 k0
  go_wp2_with fail
  rw [← z0]
  refine (HB.out W0).mono ?_
  rintro e w1 ⟨rfl, hb⟩
  have k1 : Below W0.heap.size W0 (W0.alloc (.cells #[.int .i64 n] 3)) := bel_oneB W0 _
  have k2 : Below w.heap.size w w1 := (k0.trans (k1.mono (by omega))).trans (hb.mono (by omega))
  have S1 : Sv w.heap.size 0 0 w1 := (S0.below k1).below (hb.mono (by simp))
  obtain ⟨q0, q1, q2, q3, hz⟩ := S1
  have HK2 : Hid (Below w.heap.size w w1) := k2
  clear HB hb k1 k2 k0 hW0 z0
  go_wp2
  go_region
  all_goals
    go_wp2
    refine bodyPost_ret (v := .tuple #[.string ⟨#[]⟩, .agg #[.int .i64 3, .int .i64 0]]) (by simp [results, Tryz.results7, go_sem, q0, q1, hz]) rfl ⟨rfl, ?_⟩
    refine Below.drew (Below.alloc (Below.setCell (Below.setCell HK2.out ?_ _) ?_ _) ?_ _) <;> first | omega | (simp; done) | (simp; omega)

set_option maxHeartbeats 2000000 in
theorem Sums_bad (k : Int) (w : World) (hk : k < 0 ∨ 60 < k) :
    Calls Tryz.prog 19 #[.int .i64 k] w fun e w' => e = .returned (.tuple #[.slice none 0 0, .agg #[.int .i64 3, .int .i64 0]]) ∧ Below w.heap.size w w' := by
  have HB : Hid (∀ W : World, Calls Tryz.prog 35 #[.int .i64 0, .int .i64 60, .slice (some ⟨W.heap.size, 0, none⟩) 1 1] (W.alloc (.cells #[.int .i64 k] 3)) fun e w' => e = .returned (.agg #[.int .i64 3, .int .i64 0]) ∧ Below (W.heap.size + 1) (W.alloc (.cells #[.int .i64 k] 3)) w') := fun W => by
    have := between_any 0 60 [k] W.heap.size 0 1 (W.alloc (.cells #[.int .i64 k] 3)) (by simp) (by simp) (one_cellB k W)
    rw [nb_oneB, if_neg (by omega)] at this
    simpa using this
  clear hk
  go_enter Tryz.func19, Tryz.ntmps19
  obtain ⟨W0, hW0⟩ : ∃ W, w.alloc (.cells #[.int .i64 0, .int .i64 0] 23) = W := ⟨_, rfl⟩
  have S0 := Sv.new 0 0 w
  have k0 := bel_oneB w (.cells #[.int .i64 0, .int .i64 0] 23)
  have z0 : W0.heap.size = w.heap.size + 1 := by rw [← hW0]; simp
  rw [hW0] at S0 k0
  go_wp2_with fail
  rw [← z0]
  refine (HB.out W0).mono ?_
  rintro e w1 ⟨rfl, hb⟩
  have k1 : Below W0.heap.size W0 (W0.alloc (.cells #[.int .i64 k] 3)) := bel_oneB W0 _
  have k2 : Below w.heap.size w w1 := (k0.trans (k1.mono (by omega))).trans (hb.mono (by omega))
  have S1 : Sv w.heap.size 0 0 w1 := (S0.below k1).below (hb.mono (by simp))
  obtain ⟨q0, q1, q2, q3, hz⟩ := S1
  have HK2 : Hid (Below w.heap.size w w1) := k2
  clear HB hb k1 k2 k0 hW0 z0
  go_wp2
  go_region
  all_goals
    go_wp2
    refine bodyPost_ret (v := .tuple #[.slice none 0 0, .agg #[.int .i64 3, .int .i64 0]]) (by simp [results, Tryz.results19, go_sem, q0, q1, hz]) rfl ⟨rfl, ?_⟩
    refine Below.drew (Below.alloc (Below.setCell (Below.setCell HK2.out ?_ _) ?_ _) ?_ _) <;> first | omega | (simp; done) | (simp; omega)

set_option maxHeartbeats 2000000 in
theorem Sum_bad0 (k n : Int) (w : World) (hk : k < 0 ∨ 60 < k) :
    Calls Tryz.prog 20 #[.int .i64 k, .int .i64 n] w fun e w' => e = .returned (.tuple #[.string ⟨#[]⟩, .agg #[.int .i64 3, .int .i64 0]]) ∧ Below w.heap.size w w' := by
  have HB : Hid (∀ W : World, Calls Tryz.prog 35 #[.int .i64 0, .int .i64 60, .slice (some ⟨W.heap.size, 0, none⟩) 1 1] (W.alloc (.cells #[.int .i64 k] 3)) fun e w' => e = .returned (.agg #[.int .i64 3, .int .i64 0]) ∧ Below (W.heap.size + 1) (W.alloc (.cells #[.int .i64 k] 3)) w') := fun W => by
    have := between_any 0 60 [k] W.heap.size 0 1 (W.alloc (.cells #[.int .i64 k] 3)) (by simp) (by simp) (one_cellB k W)
    rw [nb_oneB, if_neg (by omega)] at this
    simpa using this
  clear hk
  go_enter Tryz.func20, Tryz.ntmps20
  obtain ⟨W0, hW0⟩ : ∃ W, w.alloc (.cells #[.int .i64 0, .int .i64 0] 23) = W := ⟨_, rfl⟩
  have S0 := Sv.new 0 0 w
  have k0 := bel_oneB w (.cells #[.int .i64 0, .int .i64 0] 23)
  have z0 : W0.heap.size = w.heap.size + 1 := by rw [← hW0]; simp
  rw [hW0] at S0 k0
  go_wp2_with fail
  rw [← z0]
  refine (HB.out W0).mono ?_
  rintro e w1 ⟨rfl, hb⟩
  have k1 : Below W0.heap.size W0 (W0.alloc (.cells #[.int .i64 k] 3)) := bel_oneB W0 _
  have k2 : Below w.heap.size w w1 := (k0.trans (k1.mono (by omega))).trans (hb.mono (by omega))
  have S1 : Sv w.heap.size 0 0 w1 := (S0.below k1).below (hb.mono (by simp))
  obtain ⟨q0, q1, q2, q3, hz⟩ := S1
  have HK2 : Hid (Below w.heap.size w w1) := k2
  clear HB hb k1 k2 k0 hW0 z0
  go_wp2
  go_region
  all_goals
    go_wp2
    refine bodyPost_ret (v := .tuple #[.string ⟨#[]⟩, .agg #[.int .i64 3, .int .i64 0]]) (by simp [results, Tryz.results20, go_sem, q0, q1, hz]) rfl ⟨rfl, ?_⟩
    refine Below.drew (Below.alloc (Below.setCell (Below.setCell HK2.out ?_ _) ?_ _) ?_ _) <;> first | omega | (simp; done) | (simp; omega)

set_option maxHeartbeats 2000000 in
theorem Sets_bad0 (n k : Int) (w : World) (hn : n < 0 ∨ 200 < n) :
    Calls Tryz.prog 33 #[.int .i64 n, .int .i64 k] w fun e w' => e = .returned (.tuple #[.string ⟨#[]⟩, .agg #[.int .i64 3, .int .i64 0]]) ∧ Below w.heap.size w w' := by
  have HB : Hid (∀ W : World, Calls Tryz.prog 35 #[.int .i64 0, .int .i64 200, .slice (some ⟨W.heap.size, 0, none⟩) 2 2] (W.alloc (.cells #[.int .i64 n, .int .i64 k] 3)) fun e w' => e = .returned (.agg #[.int .i64 3, .int .i64 0]) ∧ Below (W.heap.size + 1) (W.alloc (.cells #[.int .i64 n, .int .i64 k] 3)) w') := fun W => by
    have := between_any 0 200 [n, k] W.heap.size 0 2 (W.alloc (.cells #[.int .i64 n, .int .i64 k] 3)) (by simp) (by simp) (fun j hj => two_cellB n k W j hj)
    rw [nb_twoB, if_neg (by omega)] at this
    simpa using this
  clear hn
  go_enter Tryz.func33, Tryz.ntmps33
  obtain ⟨W0, hW0⟩ : ∃ W, w.alloc (.cells #[.int .i64 0, .int .i64 0] 23) = W := ⟨_, rfl⟩
  have S0 := Sv.new 0 0 w
  have k0 := bel_oneB w (.cells #[.int .i64 0, .int .i64 0] 23)
  have z0 : W0.heap.size = w.heap.size + 1 := by rw [← hW0]; simp
  rw [hW0] at S0 k0
  go_wp2_with fail
  rw [← z0]
  refine (HB.out W0).mono ?_
  rintro e w1 ⟨rfl, hb⟩
  have k1 : Below W0.heap.size W0 (W0.alloc (.cells #[.int .i64 n, .int .i64 k] 3)) := bel_oneB W0 _
  have k2 : Below w.heap.size w w1 := (k0.trans (k1.mono (by omega))).trans (hb.mono (by omega))
  have S1 : Sv w.heap.size 0 0 w1 := (S0.below k1).below (hb.mono (by simp))
  obtain ⟨q0, q1, q2, q3, hz⟩ := S1
  have HK2 : Hid (Below w.heap.size w w1) := k2
  clear HB hb k1 k2 k0 hW0 z0
  go_wp2
  go_region
  all_goals
    go_wp2
    refine bodyPost_ret (v := .tuple #[.string ⟨#[]⟩, .agg #[.int .i64 3, .int .i64 0]]) (by simp [results, Tryz.results33, go_sem, q0, q1, hz]) rfl ⟨rfl, ?_⟩
    refine Below.drew (Below.alloc (Below.setCell (Below.setCell HK2.out ?_ _) ?_ _) ?_ _) <;> first | omega | (simp; done) | (simp; omega)

set_option maxHeartbeats 2000000 in
theorem Sets_bad1 (n k : Int) (w : World) (hn : 0 ≤ n ∧ n ≤ 200) (hk : k < 0 ∨ 200 < k) :
    Calls Tryz.prog 33 #[.int .i64 n, .int .i64 k] w fun e w' => e = .returned (.tuple #[.string ⟨#[]⟩, .agg #[.int .i64 3, .int .i64 1]]) ∧ Below w.heap.size w w' := by
  have HB : Hid (∀ W : World, Calls Tryz.prog 35 #[.int .i64 0, .int .i64 200, .slice (some ⟨W.heap.size, 0, none⟩) 2 2] (W.alloc (.cells #[.int .i64 n, .int .i64 k] 3)) fun e w' => e = .returned (.agg #[.int .i64 3, .int .i64 1]) ∧ Below (W.heap.size + 1) (W.alloc (.cells #[.int .i64 n, .int .i64 k] 3)) w') := fun W => by
    have := between_any 0 200 [n, k] W.heap.size 0 2 (W.alloc (.cells #[.int .i64 n, .int .i64 k] 3)) (by simp) (by simp) (fun j hj => two_cellB n k W j hj)
    rw [nb_twoB, if_pos (by omega), if_neg (by omega)] at this
    simpa using this
  clear hn hk
  go_enter Tryz.func33, Tryz.ntmps33
  obtain ⟨W0, hW0⟩ : ∃ W, w.alloc (.cells #[.int .i64 0, .int .i64 0] 23) = W := ⟨_, rfl⟩
  have S0 := Sv.new 0 0 w
  have k0 := bel_oneB w (.cells #[.int .i64 0, .int .i64 0] 23)
  have z0 : W0.heap.size = w.heap.size + 1 := by rw [← hW0]; simp
  rw [hW0] at S0 k0
  go_wp2_with fail
  rw [← z0]
  refine (HB.out W0).mono ?_
  rintro e w1 ⟨rfl, hb⟩
  have k1 : Below W0.heap.size W0 (W0.alloc (.cells #[.int .i64 n, .int .i64 k] 3)) := bel_oneB W0 _
  have k2 : Below w.heap.size w w1 := (k0.trans (k1.mono (by omega))).trans (hb.mono (by omega))
  have S1 : Sv w.heap.size 0 0 w1 := (S0.below k1).below (hb.mono (by simp))
  obtain ⟨q0, q1, q2, q3, hz⟩ := S1
  have HK2 : Hid (Below w.heap.size w w1) := k2
  clear HB hb k1 k2 k0 hW0 z0
  go_wp2
  go_region
  all_goals
    go_wp2
    refine bodyPost_ret (v := .tuple #[.string ⟨#[]⟩, .agg #[.int .i64 3, .int .i64 1]]) (by simp [results, Tryz.results33, go_sem, q0, q1, hz]) rfl ⟨rfl, ?_⟩
    refine Below.drew (Below.alloc (Below.setCell (Below.setCell HK2.out ?_ _) ?_ _) ?_ _) <;> first | omega | (simp; done) | (simp; omega)

set_option maxHeartbeats 2000000 in
theorem Sum_bad1 (k : Nat) (n : Int) (w : World) (hk : k ≤ 60) (hn : n < 0 ∨ 1000000000000000000 < n) :
    Calls Tryz.prog 20 #[.int .i64 (k : Int), .int .i64 n] w fun e w' => e = .returned (.tuple #[.string ⟨#[]⟩, .agg #[.int .i64 3, .int .i64 1]]) ∧ Below w.heap.size w w' := by
  have HB : Hid (∀ W : World, Calls Tryz.prog 35 #[.int .i64 0, .int .i64 60, .slice (some ⟨W.heap.size, 0, none⟩) 1 1] (W.alloc (.cells #[.int .i64 (k : Int)] 3)) fun e w' => e = .returned (.agg #[.int .i64 0, .int .i64 0]) ∧ Below (W.heap.size + 1) (W.alloc (.cells #[.int .i64 (k : Int)] 3)) w') := fun W => by
    have := between_any 0 60 [(k : Int)] W.heap.size 0 1 (W.alloc (.cells #[.int .i64 (k : Int)] 3)) (by simp) (by simp) (one_cellB _ W)
    rw [nb_oneB, if_pos (by omega)] at this
    simpa using this
  have HN : Hid (n < 0 ∨ 1000000000000000000 < n) := hn
  clear hn
  go_enter Tryz.func20, Tryz.ntmps20
  obtain ⟨W0, hW0⟩ : ∃ W, w.alloc (.cells #[.int .i64 0, .int .i64 0] 23) = W := ⟨_, rfl⟩
  have S0 := Sv.new 0 0 w
  have k0 := bel_oneB w (.cells #[.int .i64 0, .int .i64 0] 23)
  have z0 : W0.heap.size = w.heap.size + 1 := by rw [← hW0]; simp
  rw [hW0] at S0 k0
  go_wp2_with fail
  rw [← z0]
  refine (HB.out W0).mono ?_
  rintro e w1 ⟨rfl, hb⟩
  have k1 : Below W0.heap.size W0 (W0.alloc (.cells #[.int .i64 (k : Int)] 3)) := bel_oneB W0 _
  have k2 : Below w.heap.size w w1 := (k0.trans (k1.mono (by omega))).trans (hb.mono (by omega))
  have S1 : Sv w.heap.size 0 0 w1 := (S0.below k1).below (hb.mono (by simp))
  obtain ⟨q0, q1, q2, q3, hz⟩ := S1
  have HK2 : Hid (Below w.heap.size w w1) := k2
  clear HB hb k1 k2 k0 hW0 z0
  by_cases h0 : n < 0
  · have d0 : decide (n < 0) = true := decide_eq_true h0
    go_wp2
    refine bodyPost_ret (v := .tuple #[.string ⟨#[]⟩, .agg #[.int .i64 3, .int .i64 1]]) (by simp [results, Tryz.results20, go_sem, q0, q1, hz]) rfl ⟨rfl, ?_⟩
    refine (Below.alloc (Below.setCell (Below.setCell HK2.out ?_ _) ?_ _) ?_ _) <;> first | omega | (simp; done) | (simp; omega)
  · have d0 : decide (n < 0) = false := decide_eq_false h0
    have d1 : decide (1000000000000000000 < n) = true := decide_eq_true (by have := HN.out; omega)
    go_wp2
    refine bodyPost_ret (v := .tuple #[.string ⟨#[]⟩, .agg #[.int .i64 3, .int .i64 1]]) (by simp [results, Tryz.results20, go_sem, q0, q1, hz]) rfl ⟨rfl, ?_⟩
    refine (Below.alloc (Below.setCell (Below.setCell HK2.out ?_ _) ?_ _) ?_ _) <;> first | omega | (simp; done) | (simp; omega)

theorem pk_bs {k n : Nat} (hk : k ≤ 60) (hn : n ≤ 1000000000000000000) : BN.pk k n < Bs ^ 130 := by
  have h1 := BN.pk_le k n
  have h2 : n * n ^ k ≤ Bs ^ 3 * (Bs ^ 2) ^ 60 := Nat.mul_le_mul (Nat.le_trans hn (by decide +kernel)) (Nat.le_trans (Nat.pow_le_pow_left (Nat.le_trans hn (show _ ≤ Bs ^ 2 by decide +kernel)) k) (Nat.pow_le_pow_right (by decide +kernel) hk))
  have h3 : Bs ^ 3 * (Bs ^ 2) ^ 60 < Bs ^ 130 := by decide +kernel
  omega
set_option maxHeartbeats 2000000 in
theorem Sum_ok (k n : Nat) (w : World) (hk : k ≤ 60) (hn : n ≤ 1000000000000000000) (hT : Tb w) (hQ : Tq w) :
    Calls Tryz.prog 20 #[.int .i64 (k : Int), .int .i64 (n : Int)] w fun e w' => e = .returned (.tuple #[.string ⟨(Lib.decDigits (BN.pk k n)).toArray⟩, .agg #[.int .i64 0, .int .i64 0]]) ∧ Below w.heap.size w w' := by
  have HB : Hid (∀ W : World, Calls Tryz.prog 35 #[.int .i64 0, .int .i64 60, .slice (some ⟨W.heap.size, 0, none⟩) 1 1] (W.alloc (.cells #[.int .i64 (k : Int)] 3)) fun e w' => e = .returned (.agg #[.int .i64 0, .int .i64 0]) ∧ Below (W.heap.size + 1) (W.alloc (.cells #[.int .i64 (k : Int)] 3)) w') := fun W => by
    have := between_any 0 60 [(k : Int)] W.heap.size 0 1 (W.alloc (.cells #[.int .i64 (k : Int)] 3)) (by simp) (by simp) (one_cellB _ W)
    rw [nb_oneB, if_pos (by omega)] at this
    simpa using this
  have HCn : Hid (∀ W, Below w.heap.size w W → Calls Tryz.prog 51 #[.int .i64 (k : Int), .int .i64 (n : Int)] W fun e w' => ∃ u, e = .returned (.agg #[u, .bool false]) ∧ LN w' u (BN.pk k n) ∧ Below W.heap.size W w') := fun W kk => bsum_any k n W hk hn (hT.below kk)
  obtain ⟨st, hst⟩ : ∃ st : ByteArray, st = ⟨(Lib.decDigits (BN.pk k n)).toArray⟩ := ⟨_, rfl⟩
  have HSt : Hid (∀ (v : Value) (W : World), LN W v (BN.pk k n) → Below w.heap.size w W → Calls Tryz.prog 52 #[.agg #[v, .bool false]] W fun e w' => e = .returned (.string st) ∧ Below W.heap.size W w') := fun v W h kk => by
    rw [hst]; exact SString_any v _ 130 W h (pk_bs hk hn) (by omega) (by omega) (hQ.below kk)
  rw [← hst]
  have d0 : decide ((n : Int) < 0) = false := decide_eq_false (by omega)
  have d1 : decide (1000000000000000000 < (n : Int)) = false := decide_eq_false (by omega)
  clear hT hQ hst
  go_enter Tryz.func20, Tryz.ntmps20
  obtain ⟨W0, hW0⟩ : ∃ W, w.alloc (.cells #[.int .i64 0, .int .i64 0] 23) = W := ⟨_, rfl⟩
  have S0 := Sv.new 0 0 w
  have k0 := bel_oneB w (.cells #[.int .i64 0, .int .i64 0] 23)
  have z0 : W0.heap.size = w.heap.size + 1 := by rw [← hW0]; simp
  rw [hW0] at S0 k0
  go_wp2_with fail
  rw [← z0]
  refine (HB.out W0).mono ?_
  rintro e w1 ⟨rfl, hb⟩
  have k1 : Below W0.heap.size W0 (W0.alloc (.cells #[.int .i64 (k : Int)] 3)) := bel_oneB W0 _
  have k2 : Below w.heap.size w w1 := (k0.trans (k1.mono (by omega))).trans (hb.mono (by omega))
  have S1 : Sv w.heap.size 0 0 w1 := (S0.below k1).below (hb.mono (by simp))
  have HS1 : Hid (Sv w.heap.size 0 0 w1 ∧ Below w.heap.size w w1) := ⟨S1, k2⟩
  clear HB hb k1 k2 k0 hW0 z0 S1 S0
  go_wp2_with fail
  obtain ⟨W2, hW2⟩ : ∃ W2, W2 = w1.alloc (.cells #[.int .i64 0, .int .i64 0] 23) := ⟨_, rfl⟩
  rw [← hW2]
  have HS2 : Hid (Sv w.heap.size 0 0 W2 ∧ Below w.heap.size w W2) := by
    show _ ∧ _
    rw [hW2]
    exact ⟨HS1.out.1.alloc _ _, Below.alloc HS1.out.2 HS1.out.2.size _⟩
  clear hW2
  refine (HCn.out W2 HS2.out.2).mono ?_
  rintro e w3 ⟨v, rfl, hv, k3⟩
  have HS3 : Hid (Sv w.heap.size 0 0 w3 ∧ Below w.heap.size w w3) := ⟨HS2.out.1.below k3, HS2.out.2.trans (k3.mono HS2.out.2.size)⟩
  have HLn : Hid (LN w3 v (BN.pk k n)) := hv
  clear HS1 HS2 hv k3 HCn
  go_wp2_with fail
  refine (HSt.out _ _ HLn.out HS3.out.2).mono ?_
  rintro e w4 ⟨rfl, k4⟩
  have HK4 : Hid (Below w.heap.size w w4) := HS3.out.2.trans (k4.mono HS3.out.2.size)
  obtain ⟨q0, q1, q2, q3, hz⟩ := HS3.out.1.below k4
  clear k4 HS3 HLn HSt
  go_wp2
  refine bodyPost_ret (v := .tuple #[.string st, .agg #[.int .i64 0, .int .i64 0]]) (by simp [results, Tryz.results20, go_sem, q0, q1, hz]) rfl ⟨rfl, ?_⟩
  exact Below.setCell (Below.setCell HK4.out (Nat.le_refl _) _) (Nat.le_refl _) _

end Go.Proofs.YtnkjadpmigpneaaGreatDoor
end

section
/- Package long: Gcd. -/
set_option linter.unusedSimpArgs false
set_option linter.unusedVariables false
set_option maxRecDepth 100000
namespace Go.Proofs.YtnkjadpmigpneaaGreatDoor
open Go.RowKit LgM

/-- Writing boxes of Numbers beyond B changes nothing below. -/
theorem LN.below2 {w w' : World} {v : Value} {n : Nat} (h : LN w v n) (k : Below w.heap.size w w') : LN w' v n := h.below k

set_option maxHeartbeats 2000000 in
theorem NGcd_any (vx vy : Value) (x y m : Nat) (w : World) (hx : LN w vx x) (hy : LN w vy y) (hxm : x < Bs ^ m) (hym : y < Bs ^ m) (hm : m ≤ 1000000) :
    Calls Tryz.prog 76 #[.agg #[vx], .agg #[vy]] w fun e w' => ∃ v, e = .returned (.agg #[v]) ∧ LN w' v (Nat.gcd x y) ∧ Below w.heap.size w w' := by
  obtain ⟨ax, kx, cx, rfl⟩ := hx.shape
  obtain ⟨ay, ky, cy, rfl⟩ := hy.shape
  have P0 := Pb.start (.slice ax kx cx) (.slice ay ky cy) w
  obtain ⟨W0, hW0⟩ : ∃ W0, W0 = (((w.alloc (.cells #[.slice ax kx cx] 64)).alloc (.cells #[.slice ay ky cy] 64)).alloc (.cells #[.slice none 0 0] 64)) := ⟨_, rfl⟩
  rw [← hW0] at P0
  have KB0 : Below w.heap.size w W0 := by
    rw [hW0]; exact (((Below.refl _ _).alloc (Nat.le_refl _) _).alloc (by simp) _).alloc (by simp; omega) _
  have HR0 : Hid (Pb w.heap.size (.slice ax kx cx) (.slice ay ky cy) W0 ∧ LN W0 (.slice ax kx cx) x ∧ LN W0 (.slice ay ky cy) y ∧ x < Bs ^ m ∧ y < Bs ^ m ∧ Below w.heap.size w W0) := ⟨P0, hx.below KB0, hy.below KB0, hxm, hym, KB0⟩
  clear P0 hx hy hxm hym KB0
  go_enter Tryz.func76, Tryz.ntmps76
  go_wp2
  rw [← hW0]
  clear hW0
  go_loopg [] y (fun gk wx => ∃ (X Y : Nat) (ax ay : Option Addr) (kx ky cx cy : Nat), Hid (gk = Y ∧ Nat.gcd X Y = Nat.gcd x y ∧ Pb w.heap.size (.slice ax kx cx) (.slice ay ky cy) wx ∧ LN wx (.slice ax kx cx) X ∧ LN wx (.slice ay ky cy) Y ∧ X < Bs ^ m ∧ Y < Bs ^ m ∧ Below w.heap.size w wx))
  case atStart => exact ⟨x, y, ax, ay, kx, ky, cx, cy, rfl, rfl, HR0.out⟩
  case round =>
    clear HR0
    obtain ⟨X, Y, ax, ay, kx, ky, cx, cy, HR⟩ := hrel
    have q1 := HR.out.2.2.1.y.cell 0
    simp at q1
    have HZw : Hid (w.heap.size + 3 ≤ wr.heap.size) := by have := HR.out.2.2.1.z.lt; show _ ≤ _; omega
    have HIz : Hid (Calls Tryz.prog 104 #[.agg #[.slice ay ky cy]] wr fun e w' => e = .returned (.bool (decide (Y = 0))) ∧ Below wr.heap.size wr w') := IsZero_any _ Y wr HR.out.2.2.2.2.1
    by_cases h0 : Y = 0
    · rw [decide_eq_true h0] at HIz
      have HY0 : Hid (Y = 0) := h0
      clear h0
      go_wp2_with fail
      refine HIz.out.mono ?_
      rintro e w2 ⟨rfl, k2⟩
      have HP2 : Hid (Pb w.heap.size (.slice ax kx cx) (.slice ay ky cy) w2 ∧ LN w2 (.slice ax kx cx) X ∧ Below w.heap.size w w2) := ⟨HR.out.2.2.1.below k2 HZw.out, HR.out.2.2.2.1.below k2, HR.out.2.2.2.2.2.2.2.trans (k2.mono (by have := HZw.out; omega))⟩
      have q2 := HP2.out.1.x.cell 0
      have q3 := HP2.out.1.z.cell 0
      have q4 := HP2.out.1.z.frozen 0
      simp at q2 q3
      clear k2 q1 HIz
      go_wp2
      have C2 := HP2.out.1.z.set 0 (.slice ax kx cx)
      have q5 := C2.cell 0
      simp at q5
      refine bodyPost_ret (v := .agg #[.slice ax kx cx]) (by simp [results, Tryz.results76, go_sem, q5]) rfl ⟨_, rfl, ?_, ?_⟩
      · have e : X = Nat.gcd x y := by rw [← HR.out.2.1, HY0.out, Nat.gcd_zero_right]
        rw [← e]; exact HP2.out.2.1.set HP2.out.1.z _
      · exact HP2.out.2.2.setCell (by simp; omega) _
    · rw [decide_eq_false h0] at HIz
      have HYp : Hid (0 < Y) := by show 0 < Y; omega
      clear h0
      go_wp2_with fail
      refine HIz.out.mono ?_
      rintro e w2 ⟨rfl, k2⟩
      have HP2 : Hid (Pb w.heap.size (.slice ax kx cx) (.slice ay ky cy) w2 ∧ LN w2 (.slice ax kx cx) X ∧ LN w2 (.slice ay ky cy) Y ∧ Below w.heap.size w w2) := ⟨HR.out.2.2.1.below k2 HZw.out, HR.out.2.2.2.1.below k2, HR.out.2.2.2.2.1.below k2, HR.out.2.2.2.2.2.2.2.trans (k2.mono (by have := HZw.out; omega))⟩
      have q2 := HP2.out.1.x.cell 0
      have q3 := HP2.out.1.y.cell 0
      simp at q2 q3
      have HZ2 : Hid (w.heap.size + 3 ≤ w2.heap.size) := by have := HP2.out.1.z.lt; show _ ≤ _; omega
      have HDv : Hid (Calls Tryz.prog 77 #[.agg #[.slice ax kx cx], .agg #[.slice ay ky cy]] w2 fun e w' => ∃ v u, e = .returned (.tuple #[.agg #[v], .agg #[u]]) ∧ LN w' v (X / Y) ∧ LN w' u (X % Y) ∧ Below w2.heap.size w2 w') := NDivide_any _ _ X Y m w2 HP2.out.2.1 HP2.out.2.2.1 HR.out.2.2.2.2.2.1 HR.out.2.2.2.2.2.2.1 hm HYp.out
      clear k2 q1 HIz
      go_wp2_with fail
      refine HDv.out.mono ?_
      rintro e w3 ⟨v, u, rfl, hv, hu, k3⟩
      obtain ⟨av, kv, cv, rfl⟩ := hv.shape
      obtain ⟨au, ku, cu, rfl⟩ := hu.shape
      obtain ⟨W4, hW4⟩ : ∃ W4, W4 = ((w3.alloc (.cells #[.slice av kv cv] 64)).alloc (.cells #[.slice au ku cu] 64)) := ⟨_, rfl⟩
      have hB4 : Below w3.heap.size w3 W4 := by rw [hW4]; exact ((Below.refl _ _).alloc (Nat.le_refl _) _).alloc (by simp) _
      have HP4 : Hid (Pb w.heap.size (.slice ax kx cx) (.slice ay ky cy) W4 ∧ LN W4 (.slice ay ky cy) Y ∧ LN W4 (.slice au ku cu) (X % Y) ∧ Cl (w3.heap.size + 1) [.slice au ku cu] 64 W4 ∧ Below w.heap.size w W4) := by
        have hz3 : w2.heap.size ≤ w3.heap.size := k3.size
        refine ⟨(HP2.out.1.below k3 HZ2.out).below hB4 (by have := HZ2.out; omega), (HP2.out.2.2.1.below k3).below hB4, hu.below hB4, ?_, (HP2.out.2.2.2.trans (k3.mono (by have := HZ2.out; omega))).trans (hB4.mono (by have := HZ2.out; omega))⟩
        rw [hW4]
        have := Cl.new [.slice au ku cu] 64 (w3.alloc (.cells #[.slice av kv cv] 64))
        simpa using this
      have hz3 : w2.heap.size ≤ w3.heap.size := k3.size
      have HZ3 : Hid (w.heap.size + 3 ≤ w3.heap.size) := by have := HZ2.out; show _ ≤ _; omega
      clear hv hu k3 HDv q2 q3 hB4 hz3
      go_wp2
      rw [← hW4]
      clear hW4
      have q2 := HP4.out.1.x.cell 0
      have q3 := HP4.out.1.y.cell 0
      have q4 := HP4.out.1.x.frozen 0
      have q5 := HP4.out.1.y.frozen 0
      have q6 := HP4.out.2.2.2.1.cell 0
      simp at q2 q3 q6
      have q7 : ∀ z : Value, (W4.setCell ⟨w.heap.size, 0, none⟩ z).cell? ⟨w3.heap.size + 1, 0, none⟩ = some (.slice au ku cu) := fun z => by
        have h := HP4.out.2.2.2.1.other (p := ⟨w.heap.size, 0, none⟩) (by have := HZ3.out; simp; omega) z
        have := h.cell 0
        simpa using this
      go_region
      have HNw : Hid (Pb w.heap.size (.slice ay ky cy) (.slice au ku cu) ((W4.setCell ⟨w.heap.size, 0, none⟩ (.slice ay ky cy)).setCell ⟨w.heap.size + 1, 0, none⟩ (.slice au ku cu)) ∧ LN ((W4.setCell ⟨w.heap.size, 0, none⟩ (.slice ay ky cy)).setCell ⟨w.heap.size + 1, 0, none⟩ (.slice au ku cu)) (.slice ay ky cy) Y ∧ LN ((W4.setCell ⟨w.heap.size, 0, none⟩ (.slice ay ky cy)).setCell ⟨w.heap.size + 1, 0, none⟩ (.slice au ku cu)) (.slice au ku cu) (X % Y) ∧ Below w.heap.size w ((W4.setCell ⟨w.heap.size, 0, none⟩ (.slice ay ky cy)).setCell ⟨w.heap.size + 1, 0, none⟩ (.slice au ku cu))) := by
        have cx := HP4.out.1.x
        have cy' := HP4.out.1.y.other (p := ⟨w.heap.size, 0, none⟩) (by simp) (.slice ay ky cy)
        refine ⟨⟨(cx.set 0 _).other (by simp) _, cy'.set 0 _, (HP4.out.1.z.other (by simp) _).other (by simp) _⟩, (HP4.out.2.1.set cx _).set cy' _, (HP4.out.2.2.1.set cx _).set cy' _, (HP4.out.2.2.2.2.setCell (by simp) _).setCell (by simp) _⟩
      clear q2 q3 q4 q5 q6 q7
      go_wp2
      go_roundg (X % Y)
      case rel =>
        have hd : ∀ {b : Nat} {vx vy : Value} {W : World}, Pb b vx vy W → Pb b vx vy W.drew := fun h => ⟨h.x.drew, h.y.drew, h.z.drew⟩
        have hl : ∀ {v : Value} {n : Nat} {W : World}, LN W v n → LN W.drew v n := fun h => h.below (Below.refl _ _).drew
        refine ⟨Y, X % Y, ay, au, ky, ku, cy, cu, rfl, ?_, hd HNw.out.1, hl HNw.out.2.1, hl HNw.out.2.2.1, HR.out.2.2.2.2.2.2.1, Nat.lt_trans (Nat.mod_lt _ HYp.out) HR.out.2.2.2.2.2.2.1, HNw.out.2.2.2.drew⟩
        rw [← HR.out.2.1, Nat.gcd_comm Y, ← Nat.gcd_rec, Nat.gcd_comm]
      case measure => rw [HR.out.1]; exact Nat.mod_lt _ HYp.out
end Go.Proofs.YtnkjadpmigpneaaGreatDoor
end
