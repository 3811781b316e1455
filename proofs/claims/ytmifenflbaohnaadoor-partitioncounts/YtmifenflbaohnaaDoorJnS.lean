import Derived.Test.YtmifenflbaohnaaDoorJnR
import Derived.Test.YtmifenflbaohnaaDoorPtF
import Derived.Test.YtmifenflbaohnaaDoorJnB
import Derived.Test.YtmifenflbaohnaaDoorJnD
section
/- The law PartitionCounts: numbers that are none, and numbers above 25; out of what is asked of the code. -/
set_option linter.unusedSimpArgs false
set_option linter.unusedVariables false
set_option maxRecDepth 100000
namespace Go.Proofs.YtmifenflbaohnaaDoor
open Go.RowKit LgM

set_option maxHeartbeats 4000000 in
theorem counts_bad (n : Int) (w : World) (hn : n < 0 ∨ 2000 < n) (hCt : Calls Tryd.prog 6 #[.int .i64 n] w fun e w' => e = .returned (.tuple #[.string ⟨#[]⟩, .agg #[.int .i64 3, .int .i64 0]]) ∧ Below w.heap.size w w') (hLs : ∀ W, Below w.heap.size w W → Calls Tryd.prog 7 #[.int .i64 n] W fun e w' => e = .returned (.tuple #[.slice none 0 0, .agg #[.int .i64 3, .int .i64 0]]) ∧ Below W.heap.size W w') (hBg : ∀ W, Below w.heap.size w W → Calls Tryd.prog 8 #[] W fun e w' => e = .returned (.bool true) ∧ Below W.heap.size W w') :
    Calls Tryd.prog 3 #[.int .i64 n] w fun e w' => e = .returned (.bool true) ∧ Below w.heap.size w w' := by
  have HCt : Hid (Calls Tryd.prog 6 #[.int .i64 n] w fun e w' => e = .returned (.tuple #[.string ⟨#[]⟩, .agg #[.int .i64 3, .int .i64 0]]) ∧ Below w.heap.size w w') := hCt
  have HLs : Hid (∀ W, Below w.heap.size w W → Calls Tryd.prog 7 #[.int .i64 n] W fun e w' => e = .returned (.tuple #[.slice none 0 0, .agg #[.int .i64 3, .int .i64 0]]) ∧ Below W.heap.size W w') := hLs
  have HBg : Hid (∀ W, Below w.heap.size w W → Calls Tryd.prog 8 #[] W fun e w' => e = .returned (.bool true) ∧ Below W.heap.size W w') := hBg
  clear hCt hLs hBg
  go_enter Tryd.func3, Tryd.ntmps3
  go_wp2_with fail
  refine HCt.out.mono ?_
  rintro e w1 ⟨rfl, k1⟩
  go_wp2_with fail
  obtain ⟨b4, hb4⟩ : ∃ b, w1.heap.size = b := ⟨_, rfl⟩
  obtain ⟨W2, hW2⟩ : ∃ W, w1.alloc (.cells #[.int .i64 3, .int .i64 0] 23) = W := ⟨_, rfl⟩
  have K2 : Hid (Sv b4 3 0 W2 ∧ Below w.heap.size w W2) := by
    show _ ∧ _
    rw [← hW2]
    exact ⟨Sv.fresh 3 0 hb4, k1.trans ((below_one w1 _).mono k1.size)⟩
  rw [hW2, hb4]
  clear hW2 hb4 k1 HCt
  refine (HLs.out _ K2.out.2).mono ?_
  rintro e w3 ⟨rfl, k3⟩
  have K3 : Hid (Sv b4 3 0 w3 ∧ Below w.heap.size w w3) := ⟨K2.out.1.below k3, K2.out.2.trans (k3.mono K2.out.2.size)⟩
  clear k3 K2 HLs
  go_wp2_with fail
  obtain ⟨b6, hb6⟩ : ∃ b, w3.heap.size = b := ⟨_, rfl⟩
  obtain ⟨W4, hW4⟩ : ∃ W, w3.alloc (.cells #[.int .i64 3, .int .i64 0] 23) = W := ⟨_, rfl⟩
  have K4 : Hid (Sv b4 3 0 W4 ∧ Sv b6 3 0 W4 ∧ Below w.heap.size w W4) := by
    show _ ∧ _
    rw [← hW4]
    have kb := below_one w3 (.cells #[.int .i64 3, .int .i64 0] 23)
    exact ⟨K3.out.1.below kb, Sv.fresh 3 0 hb6, K3.out.2.trans (kb.mono K3.out.2.size)⟩
  rw [hW4, hb6]
  clear hW4 hb6 K3
  refine (HBg.out _ K4.out.2.2).mono ?_
  rintro e w5 ⟨rfl, k5⟩
  have K5 : Hid (Sv b4 3 0 w5 ∧ Sv b6 3 0 w5 ∧ Below w.heap.size w w5) := ⟨K4.out.1.below k5, K4.out.2.1.below k5, K4.out.2.2.trans (k5.mono K4.out.2.2.size)⟩
  clear k5 K4 HBg
  have HFn : Hid (∀ W, Below w.heap.size w W → Sv b4 3 0 W → Sv b6 3 0 W → Calls Tryd.prog 9 #[.int .i64 3, .int .i64 0] W fun e w' => e = .returned (.agg #[.int .i64 3, .int .i64 0]) ∧ Below W.heap.size W w') := fun W _ _ _ => F_any 3 0 W
  by_cases h0 : n < 0
  · have t0 : decide (n < 0) = true := decide_eq_true h0
    go_wp2_with fail
    refine (F_any 3 0 w5).mono ?_
    rintro e w6 ⟨rfl, k6⟩
    have K6 : Hid (Sv b4 3 0 w6 ∧ Sv b6 3 0 w6 ∧ Below w.heap.size w w6) := ⟨K5.out.1.below k6, K5.out.2.1.below k6, K5.out.2.2.trans (k6.mono K5.out.2.2.size)⟩
    clear k6 K5 HFn
    have f0 : ∀ o : Obj, (w6.alloc o).cell? ⟨b4, 0, none⟩ = some (.int .i64 3) := fun o => (K6.out.1.below (below_one w6 o)).c0
    have f1 : ∀ o : Obj, (w6.alloc o).cell? ⟨b4, 1, none⟩ = some (.int .i64 0) := fun o => (K6.out.1.below (below_one w6 o)).c1
    have g0 : ∀ o : Obj, (w6.alloc o).cell? ⟨b6, 0, none⟩ = some (.int .i64 3) := fun o => (K6.out.2.1.below (below_one w6 o)).c0
    have g1 : ∀ o : Obj, (w6.alloc o).cell? ⟨b6, 1, none⟩ = some (.int .i64 0) := fun o => (K6.out.2.1.below (below_one w6 o)).c1
    go_wp2
    go_ret
    exact ⟨rfl, K6.out.2.2.trans ((below_one w6 _).mono K6.out.2.2.size)⟩
  · have t0 : decide (n < 0) = false := decide_eq_false h0
    have t1 : decide (2000 < n) = true := decide_eq_true (by omega)
    go_wp2_with fail
    refine (F_any 3 0 w5).mono ?_
    rintro e w6 ⟨rfl, k6⟩
    have K6 : Hid (Sv b4 3 0 w6 ∧ Sv b6 3 0 w6 ∧ Below w.heap.size w w6) := ⟨K5.out.1.below k6, K5.out.2.1.below k6, K5.out.2.2.trans (k6.mono K5.out.2.2.size)⟩
    clear k6 K5 HFn
    have f0 : ∀ o : Obj, (w6.alloc o).cell? ⟨b4, 0, none⟩ = some (.int .i64 3) := fun o => (K6.out.1.below (below_one w6 o)).c0
    have f1 : ∀ o : Obj, (w6.alloc o).cell? ⟨b4, 1, none⟩ = some (.int .i64 0) := fun o => (K6.out.1.below (below_one w6 o)).c1
    have g0 : ∀ o : Obj, (w6.alloc o).cell? ⟨b6, 0, none⟩ = some (.int .i64 3) := fun o => (K6.out.2.1.below (below_one w6 o)).c0
    have g1 : ∀ o : Obj, (w6.alloc o).cell? ⟨b6, 1, none⟩ = some (.int .i64 0) := fun o => (K6.out.2.1.below (below_one w6 o)).c1
    go_wp2
    go_ret
    exact ⟨rfl, K6.out.2.2.trans ((below_one w6 _).mono K6.out.2.2.size)⟩

end Go.Proofs.YtmifenflbaohnaaDoor
end

section
/- The law PartitionCounts: numbers above 25; out of what is asked of the code. -/
set_option linter.unusedSimpArgs false
set_option linter.unusedVariables false
set_option maxRecDepth 100000
namespace Go.Proofs.YtmifenflbaohnaaDoor
open Go.RowKit LgM

/-- The texts of two numbers of partitions. -/
theorem pt_text (nM : Nat) (hn : nM ≤ 2000) (b : Nat) (w : World) (hb : BigAt w b ((PT.pt nM nM : Nat) : Int)) : Calls Tryd.prog 11 #[.pointer (some ⟨b, 0, none⟩)] w fun e w' => e = .returned (.string ⟨(Lib.decDigits (PT.pt nM nM)).toArray⟩) ∧ Below w.heap.size w w' := by
  have h : PT.pt nM nM < pw 6 := Nat.lt_trans (PT.pt_X hn hn) (by decide +kernel)
  have := IString_any b ((PT.pt nM nM : Nat) : Int) 6 w hb (by rw [Int.natAbs_natCast]; exact h) (by decide) (by decide)
  rw [decZ_nat] at this
  exact this

set_option maxHeartbeats 4000000 in
theorem counts_mid (nM : Nat) (st : ByteArray) (w : World) (hn : nM ≤ 2000) (hn25 : 25 < nM) (hst : st = ⟨(Lib.decDigits (PT.pt nM nM)).toArray⟩) (hCt : Calls Tryd.prog 6 #[.int .i64 (nM : Int)] w fun e w' => e = .returned (.tuple #[.string st, .agg #[.int .i64 0, .int .i64 0]]) ∧ Below w.heap.size w w') (hLs : ∀ W, Below w.heap.size w W → Calls Tryd.prog 7 #[.int .i64 (nM : Int)] W fun e w' => e = .returned (.tuple #[.slice none 0 0, .agg #[.int .i64 3, .int .i64 0]]) ∧ Below W.heap.size W w') (hBg : ∀ W, Below w.heap.size w W → Calls Tryd.prog 8 #[] W fun e w' => e = .returned (.bool true) ∧ Below W.heap.size W w') :
    Calls Tryd.prog 3 #[.int .i64 (nM : Int)] w fun e w' => e = .returned (.bool true) ∧ Below w.heap.size w w' := by
  have HLs : Hid (∀ W, Below w.heap.size w W → Calls Tryd.prog 7 #[.int .i64 (nM : Int)] W fun e w' => e = .returned (.tuple #[.slice none 0 0, .agg #[.int .i64 3, .int .i64 0]]) ∧ Below W.heap.size W w') := hLs
  have t25 : decide (25 < (nM : Int)) = true := decide_eq_true (by omega)
  clear hLs
  have HCt : Hid (Calls Tryd.prog 6 #[.int .i64 (nM : Int)] w fun e w' => e = .returned (.tuple #[.string st, .agg #[.int .i64 0, .int .i64 0]]) ∧ Below w.heap.size w w') := hCt
  have HBg : Hid (∀ W, Below w.heap.size w W → Calls Tryd.prog 8 #[] W fun e w' => e = .returned (.bool true) ∧ Below W.heap.size W w') := hBg
  have HTx : Hid (∀ b w, BigAt w b ((PT.pt nM nM : Nat) : Int) → Calls Tryd.prog 11 #[.pointer (some ⟨b, 0, none⟩)] w fun e w' => e = .returned (.string st) ∧ Below w.heap.size w w') := fun b w h => by rw [hst]; exact pt_text nM hn b w h
  have HPm : Hid (∀ w, Calls Tryd.prog 10 #[.int .i64 (nM : Int)] w fun e w' => ∃ b g : Nat, e = .returned (.slice (some ⟨g, 0, none⟩) (nM + 1) (nM + 1)) ∧ w'.cell? ⟨g, nM, none⟩ = some (.pointer (some ⟨b, 0, none⟩)) ∧ BigAt w' b ((PT.pt nM nM : Nat) : Int) ∧ Below w.heap.size w w') := fun w => by
    refine (refPartitionsMany_any nM w hn).mono ?_
    rintro e w' ⟨g, c, rfl, h⟩
    obtain ⟨b, h1, h2⟩ := h.num nM (by omega)
    exact ⟨b, g, rfl, by rw [h.row.cell, vcells_at _ (by omega), h1], h2, h.k⟩
  have t0 : decide ((nM : Int) < 0) = false := decide_eq_false (by omega)
  have t1 : decide (2000 < (nM : Int)) = false := decide_eq_false (by omega)
  have hb1 : (nM : Int) < (nM : Int) + 1 := by omega
  clear hCt hBg hst
  go_enter Tryd.func3, Tryd.ntmps3
  go_wp2_with fail
  refine HCt.out.mono ?_
  rintro e w1 ⟨rfl, k1⟩
  go_wp2_with fail
  obtain ⟨b4, hb4⟩ : ∃ b, w1.heap.size = b := ⟨_, rfl⟩
  obtain ⟨W2, hW2⟩ : ∃ W, w1.alloc (.cells #[.int .i64 0, .int .i64 0] 23) = W := ⟨_, rfl⟩
  have K2 : Hid (Sv b4 0 0 W2 ∧ Below w.heap.size w W2) := by
    show _ ∧ _
    rw [← hW2]
    exact ⟨Sv.fresh 0 0 hb4, k1.trans ((below_one w1 _).mono k1.size)⟩
  rw [hW2, hb4]
  clear hW2 hb4 k1 HCt
  refine (HLs.out _ K2.out.2).mono ?_
  rintro e w3 ⟨rfl, k3⟩
  have K3 : Hid (Sv b4 0 0 w3 ∧ Below w.heap.size w w3) := ⟨K2.out.1.below k3, K2.out.2.trans (k3.mono K2.out.2.size)⟩
  clear k3 K2 HLs
  go_wp2_with fail
  obtain ⟨b6, hb6⟩ : ∃ b, w3.heap.size = b := ⟨_, rfl⟩
  obtain ⟨W4, hW4⟩ : ∃ W, w3.alloc (.cells #[.int .i64 3, .int .i64 0] 23) = W := ⟨_, rfl⟩
  have K4 : Hid (Sv b4 0 0 W4 ∧ Sv b6 3 0 W4 ∧ Below w.heap.size w W4) := by
    show _ ∧ _
    rw [← hW4]
    have kb := below_one w3 (.cells #[.int .i64 3, .int .i64 0] 23)
    exact ⟨K3.out.1.below kb, Sv.fresh 3 0 hb6, K3.out.2.trans (kb.mono K3.out.2.size)⟩
  rw [hW4, hb6]
  clear hW4 hb6 K3
  refine (HBg.out _ K4.out.2.2).mono ?_
  rintro e w5 ⟨rfl, k5⟩
  have K5 : Hid (Sv b4 0 0 w5 ∧ Sv b6 3 0 w5 ∧ Below w.heap.size w w5) := ⟨K4.out.1.below k5, K4.out.2.1.below k5, K4.out.2.2.trans (k5.mono K4.out.2.2.size)⟩
  clear k5 K4 HBg
  obtain ⟨u0, u1, u2, u3, u4⟩ := K5.out.1
  go_wp2_with fail
  refine (HPm.out w5).mono ?_
  rintro e w6 ⟨bn, gn, rfl, cn, hbn, k6⟩
  have K6 : Hid (Sv b6 3 0 w6 ∧ Below w.heap.size w w6) := ⟨K5.out.2.1.below k6, K5.out.2.2.trans (k6.mono K5.out.2.2.size)⟩
  have HBn : Hid (BigAt w6 bn ((PT.pt nM nM : Nat) : Int)) := hbn
  clear k6 hbn u0 u1 u2 u3 u4 HPm
  go_wp2_with fail
  refine (HTx.out bn w6 HBn.out).mono ?_
  rintro e w7 ⟨rfl, k7⟩
  have K7 : Hid (Sv b6 3 0 w7 ∧ Below w.heap.size w w7) := ⟨K6.out.1.below k7, K6.out.2.trans (k7.mono K6.out.2.size)⟩
  clear k7 cn HBn
  have HS : Hid (∀ W', Below w7.heap.size w7 W' → W'.cell? ⟨b6, 0, none⟩ = some (.int .i64 3) ∧ W'.cell? ⟨b6, 1, none⟩ = some (.int .i64 0)) := fun W' k => ⟨(K7.out.1.below k).c0, (K7.out.1.below k).c1⟩
  go_wp2_with fail
  refine wp_region_G (fun W' => W'.cell? ⟨b6, 0, none⟩ = some (.int .i64 3) ∧ W'.cell? ⟨b6, 1, none⟩ = some (.int .i64 0)) 8 (by kernel_rfl) (HS.out _ (Below.refl _ _).drew) (fun hHeld => ?_)
  refine wpAnyG_take (i := 0) (v := ?v0x1) rfl (by kernel_rfl) (fun _ _ _ h => h) (Or.inl ⟨by rfl, ?y0x1⟩) hHeld ?r0x1
  case y0x1 => (intro wS hSw; obtain ⟨s1, s2⟩ := hSw; go_simp; try with_reducible rfl)
  simp only [Act.put, List.getElem_toArray, List.getElem_cons_zero, List.getElem_cons_succ, List.setIfInBounds_toArray, List.set_cons_zero, List.set_cons_succ]
  refine wpAnyG_one (i := 1) rfl (by kernel_rfl) (fun K hK => ?_)
  go_simp
  refine (F_any 3 0 _).mono ?_
  rintro e w8 ⟨rfl, k8⟩
  have k8' : Below w7.heap.size w7 w8 := (Below.refl _ _).drew.trans (k8.mono (by simp))
  have K8 : Hid (Below w.heap.size w w8) := K7.out.2.trans (k8'.mono K7.out.2.size)
  clear hHeld
  have hHeld : w8.cell? ⟨b6, 0, none⟩ = some (.int .i64 3) ∧ w8.cell? ⟨b6, 1, none⟩ = some (.int .i64 0) := HS.out _ k8'
  clear k8 k8'
  refine hK.out _ _ hHeld ?_
  clear hK K
  refine wpAnyG_take (i := 2) (v := .bool true) rfl (by kernel_rfl) (fun _ _ _ h => h) (Or.inl ⟨by kernel_rfl, ?y2x2⟩) hHeld ?r2x2
  case y2x2 => (intro wS hSw; (go_simp))
  simp only [Act.put, List.getElem_toArray, List.getElem_cons_zero, List.getElem_cons_succ, List.setIfInBounds_toArray, List.set_cons_zero, List.set_cons_succ]
  refine wpAnyG_take (i := 3) (v := .bool true) rfl (by kernel_rfl) (fun _ _ _ h => h) (Or.inl ⟨by kernel_rfl, ?y3x3⟩) hHeld ?r3x3
  case y3x3 => (intro wS hSw; (go_simp))
  simp only [Act.put, List.getElem_toArray, List.getElem_cons_zero, List.getElem_cons_succ, List.setIfInBounds_toArray, List.set_cons_zero, List.set_cons_succ]
  refine wpAnyG_take (i := 4) (v := .slice none 0 0) rfl (by kernel_rfl) (fun _ _ _ h => h) (Or.inl ⟨by kernel_rfl, ?y4x4⟩) hHeld ?r4x4
  case y4x4 => (intro wS hSw; (go_simp))
  simp only [Act.put, List.getElem_toArray, List.getElem_cons_zero, List.getElem_cons_succ, List.setIfInBounds_toArray, List.set_cons_zero, List.set_cons_succ]
  refine wpAnyG_take (i := 5) (v := .int .i64 0) rfl (by kernel_rfl) (fun _ _ _ h => h) (Or.inl ⟨by kernel_rfl, ?y5x5⟩) hHeld ?r5x5
  case y5x5 => (intro wS hSw; (go_simp; try rfl))
  simp only [Act.put, List.getElem_toArray, List.getElem_cons_zero, List.getElem_cons_succ, List.setIfInBounds_toArray, List.set_cons_zero, List.set_cons_succ]
  refine wpAnyG_take (i := 6) (v := .bool true) rfl (by kernel_rfl) (fun _ _ _ h => h) (Or.inl ⟨by kernel_rfl, ?y6x6⟩) hHeld ?r6x6
  case y6x6 => (intro wS hSw; (go_simp))
  simp only [Act.put, List.getElem_toArray, List.getElem_cons_zero, List.getElem_cons_succ, List.setIfInBounds_toArray, List.set_cons_zero, List.set_cons_succ]
  refine wpAnyG_take (i := 7) (v := .bool true) rfl (by kernel_rfl) (fun _ _ _ h => h) (Or.inl ⟨by kernel_rfl, ?y7x7⟩) hHeld ?r7x7
  case y7x7 => (intro wS hSw; (go_simp))
  simp only [Act.put, List.getElem_toArray, List.getElem_cons_zero, List.getElem_cons_succ, List.setIfInBounds_toArray, List.set_cons_zero, List.set_cons_succ]
  refine wpAnyG_last (i := 8) rfl (by kernel_rfl) (by kernel_rfl) (fun K hK => ?_)
  go_simp
  refine hK.out _ _ ?_
  clear hK K
  refine wpAnyG_done (by kernel_rfl) ?_ _
  go_wp2
  go_ret
  exact ⟨rfl, K8.out⟩

end Go.Proofs.YtmifenflbaohnaaDoor
end
