/- The program: cont.Near. -/
import Derived.Test.YtfbgblidlabipaaGreatDoorCnX
import Derived.Deep.CutRange
set_option linter.unusedSimpArgs false
set_option linter.unusedVariables false
set_option maxRecDepth 100000
namespace Go.Proofs.YtfbgblidlabipaaGreatDoor
open Go.RowKit
open CnM

theorem three_c (a b c : Int) (W : World) (B : Nat) (h0 : W.cell? ⟨B, 0, none⟩ = some (.int .i64 a)) (h1 : W.cell? ⟨B, 1, none⟩ = some (.int .i64 b)) (h2 : W.cell? ⟨B, 2, none⟩ = some (.int .i64 c)) :
    ∀ j, j < [a, b, c].length → W.cell? ⟨B, 0 + j, none⟩ = some (.int .i64 ([a, b, c].getD j 0)) := by
  intro j hj
  match j, hj with
  | 0, _ => exact h0
  | 1, _ => exact h1
  | 2, _ => exact h2


/-- The two results' boxes. -/
structure NB (w W : World) (x y u v : Int) : Prop where
  x : Cl w.heap.size [.int .i64 x, .int .i64 y] 23 W
  y : Cl (w.heap.size + 1) [.int .i64 u, .int .i64 v] 25 W
  k : Below w.heap.size w W
theorem NB.below {w W W' : World} {x y u v : Int} (h : NB w W x y u v) (k : Below W.heap.size W W') : NB w W' x y u v := ⟨h.x.below k, h.y.below k, h.k.trans (k.mono h.k.size)⟩
theorem NB.alloc {w W : World} {x y u v : Int} (h : NB w W x y u v) (o : Obj) : NB w (W.alloc o) x y u v := h.below ((Below.refl _ _).alloc (Nat.le_refl _) _)
theorem NB.set {w W : World} {x y u v : Int} (h : NB w W x y u v) (p q r s : Int) : NB w ((((W.setCell ⟨w.heap.size, 0, none⟩ (.int .i64 p)).setCell ⟨w.heap.size, 1, none⟩ (.int .i64 q)).setCell ⟨w.heap.size + 1, 0, none⟩ (.int .i64 r)).setCell ⟨w.heap.size + 1, 1, none⟩ (.int .i64 s)) p q r s := by
  refine ⟨?_, ?_, ?_⟩
  · exact (((h.x.set 0 (.int .i64 p)).set 1 (.int .i64 q)).other (p := ⟨w.heap.size + 1, 0, none⟩) (by simp) _).other (p := ⟨w.heap.size + 1, 1, none⟩) (by simp) _
  · exact (((h.y.other (p := ⟨w.heap.size, 0, none⟩) (by simp) (.int .i64 p)).other (p := ⟨w.heap.size, 1, none⟩) (by simp) (.int .i64 q)).set 0 (.int .i64 r)).set 1 (.int .i64 s)
  · exact (((h.k.setCell (p := ⟨w.heap.size, 0, none⟩) (Nat.le_refl _) _).setCell (p := ⟨w.heap.size, 1, none⟩) (Nat.le_refl _) _).setCell (p := ⟨w.heap.size + 1, 0, none⟩) (by simp) _).setCell (p := ⟨w.heap.size + 1, 1, none⟩) (by simp) _
theorem nb_new (a b most : Int) (w : World) : NB w (((w.alloc (.cells #[.int .i64 0, .int .i64 0] 23)).alloc (.cells #[.int .i64 0, .int .i64 0] 25)).alloc (.cells #[.int .i64 a, .int .i64 b, .int .i64 most] 3)) 0 0 0 0 ∧ Cl (w.heap.size + 2) [.int .i64 a, .int .i64 b, .int .i64 most] 3 (((w.alloc (.cells #[.int .i64 0, .int .i64 0] 23)).alloc (.cells #[.int .i64 0, .int .i64 0] 25)).alloc (.cells #[.int .i64 a, .int .i64 b, .int .i64 most] 3)) := by
  have h1 := (Cl.new [.int .i64 0, .int .i64 0] 25 (w.alloc (.cells #[.int .i64 0, .int .i64 0] 23))).alloc (.cells #[.int .i64 a, .int .i64 b, .int .i64 most] 3)
  have h2 := Cl.new [.int .i64 a, .int .i64 b, .int .i64 most] 3 ((w.alloc (.cells #[.int .i64 0, .int .i64 0] 23)).alloc (.cells #[.int .i64 0, .int .i64 0] 25))
  rw [World.size_alloc] at h1
  rw [World.size_alloc, World.size_alloc] at h2
  exact ⟨⟨((Cl.new [.int .i64 0, .int .i64 0] 23 w).alloc _).alloc _, h1, (((Below.refl _ _).alloc (Nat.le_refl _) _).alloc (by simp) _).alloc (by simp; omega) _⟩, h2⟩

set_option maxHeartbeats 1000000 in
theorem Near_bad (a b most c d : Int) (w : World) (hcd : nf 0 [a, b, most] = (c, d)) (hc : c ≠ 0) :
    Calls Tryz.prog 9 #[.int .i64 a, .int .i64 b, .int .i64 most] w fun e w' => e = .returned (.tuple #[.agg #[.int .i64 0, .int .i64 0], .agg #[.int .i64 c, .int .i64 d]]) ∧ Below w.heap.size w w' := by
  have hne : (c != 0) = true := bne_iff_ne.2 hc
  have HCD : Hid (nf 0 [a, b, most] = (c, d)) := hcd
  clear hcd hc
  obtain ⟨W0, hW0⟩ : ∃ W0, W0 = ((w.alloc (.cells #[.int .i64 0, .int .i64 0] 23)).alloc (.cells #[.int .i64 0, .int .i64 0] 25)).alloc (.cells #[.int .i64 a, .int .i64 b, .int .i64 most] 3) := ⟨_, rfl⟩
  have HW0 : Hid (W0 = ((w.alloc (.cells #[.int .i64 0, .int .i64 0] 23)).alloc (.cells #[.int .i64 0, .int .i64 0] 25)).alloc (.cells #[.int .i64 a, .int .i64 b, .int .i64 most] 3)) := hW0
  have HNB : Hid (NB w W0 0 0 0 0 ∧ Cl (w.heap.size + 2) [.int .i64 a, .int .i64 b, .int .i64 most] 3 W0) := by
    show _ ∧ _
    rw [hW0]; exact nb_new a b most w
  clear hW0
  go_enter Tryz.func9, Tryz.ntmps9
  go_wp2_with fail
  rw [← HW0.out]
  refine (numbersFault_any [a, b, most] (w.heap.size + 2) 0 3 W0 (by simp) HNB.out.2.lt (three_c a b most _ _ (HNB.out.2.cell 0) (HNB.out.2.cell 1) (HNB.out.2.cell 2))).mono ?_
  rw [HCD.out]
  rintro e w1 ⟨rfl, hb⟩
  have HN1 : Hid (NB w w1 0 0 0 0) := HNB.out.1.below hb
  clear hb HNB HW0
  obtain ⟨W1, hW1⟩ : ∃ W1, W1 = w1.alloc (.cells #[.int .i64 c, .int .i64 d] 25) := ⟨_, rfl⟩
  have HW1 : Hid (W1 = w1.alloc (.cells #[.int .i64 c, .int .i64 d] 25)) := hW1
  have HQ : Hid (NB w W1 0 0 0 0) := by show NB _ _ _ _ _ _; rw [hW1]; exact HN1.out.alloc _
  have C1 : Cl w1.heap.size [.int .i64 c, .int .i64 d] 25 W1 := by rw [hW1]; exact Cl.new [.int .i64 c, .int .i64 d] _ w1
  have HE : Hid (NB w (((((W1.setCell ⟨w.heap.size, 0, none⟩ (.int .i64 0)).setCell ⟨w.heap.size, 1, none⟩ (.int .i64 0)).setCell ⟨w.heap.size + 1, 0, none⟩ (.int .i64 c)).setCell ⟨w.heap.size + 1, 1, none⟩ (.int .i64 d))).drew 0 0 c d) := by
    have := HQ.out.set 0 0 c d
    exact ⟨this.x.drew, this.y.drew, this.k.drew⟩
  clear hW1
  go_wp2
  rw [← HW1.out]
  have q0 := HQ.out.x.cell 0
  have q1 := HQ.out.x.cell 1
  have q2 := HQ.out.y.cell 0
  have q3 := HQ.out.y.cell 1
  have q4 := HQ.out.x.frozen 0
  have q5 := HQ.out.x.frozen 1
  have q6 := HQ.out.y.frozen 0
  have q7 := HQ.out.y.frozen 1
  have hz1 := HQ.out.x.lt
  have hz2 := HQ.out.y.lt
  simp only [List.getElem?_cons_zero, List.getElem?_cons_succ] at q0 q1 q2 q3
  have s0 := C1.cell 0
  have s1 := C1.cell 1
  simp only [List.getElem?_cons_zero, List.getElem?_cons_succ] at s0 s1
  have hn1 : w1.heap.size ≠ w.heap.size := by have := HN1.out.y.lt; omega
  have hn2 : w1.heap.size ≠ w.heap.size + 1 := by have := HN1.out.y.lt; omega
  clear C1 HW1 HN1
  go_region
  all_goals
    go_wp2
    have r0 := HE.out.x.cell 0
    have r1 := HE.out.x.cell 1
    have r2 := HE.out.y.cell 0
    have r3 := HE.out.y.cell 1
    simp only [List.getElem?_cons_zero, List.getElem?_cons_succ] at r0 r1 r2 r3
    have kk := HE.out.k
    generalize ((((W1.setCell ⟨w.heap.size, 0, none⟩ (.int .i64 0)).setCell ⟨w.heap.size, 1, none⟩ (.int .i64 0)).setCell ⟨w.heap.size + 1, 0, none⟩ (.int .i64 c)).setCell ⟨w.heap.size + 1, 1, none⟩ (.int .i64 d)).drew = WF at *
    exact bodyPost_ret (v := .tuple #[.agg #[.int .i64 0, .int .i64 0], .agg #[.int .i64 c, .int .i64 d]]) (by simp [results, Tryz.results9, go_sem, r0, r1, r2, r3]) rfl ⟨rfl, kk⟩

set_option maxHeartbeats 1000000 in
theorem Near_b (a b most : Int) (w : World) (hcd : nf 0 [a, b, most] = (0, 0)) (hb0 : b < 1) :
    Calls Tryz.prog 9 #[.int .i64 a, .int .i64 b, .int .i64 most] w fun e w' => e = .returned (.tuple #[.agg #[.int .i64 0, .int .i64 0], .agg #[.int .i64 3, .int .i64 1]]) ∧ Below w.heap.size w w' := by
  have HCD : Hid (nf 0 [a, b, most] = (0, 0)) := hcd
  clear hcd
  obtain ⟨W0, hW0⟩ : ∃ W0, W0 = ((w.alloc (.cells #[.int .i64 0, .int .i64 0] 23)).alloc (.cells #[.int .i64 0, .int .i64 0] 25)).alloc (.cells #[.int .i64 a, .int .i64 b, .int .i64 most] 3) := ⟨_, rfl⟩
  have HW0 : Hid (W0 = ((w.alloc (.cells #[.int .i64 0, .int .i64 0] 23)).alloc (.cells #[.int .i64 0, .int .i64 0] 25)).alloc (.cells #[.int .i64 a, .int .i64 b, .int .i64 most] 3)) := hW0
  have HNB : Hid (NB w W0 0 0 0 0 ∧ Cl (w.heap.size + 2) [.int .i64 a, .int .i64 b, .int .i64 most] 3 W0) := by
    show _ ∧ _
    rw [hW0]; exact nb_new a b most w
  clear hW0
  go_enter Tryz.func9, Tryz.ntmps9
  go_wp2_with fail
  rw [← HW0.out]
  refine (numbersFault_any [a, b, most] (w.heap.size + 2) 0 3 W0 (by simp) HNB.out.2.lt (three_c a b most _ _ (HNB.out.2.cell 0) (HNB.out.2.cell 1) (HNB.out.2.cell 2))).mono ?_
  rw [HCD.out]
  rintro e w1 ⟨rfl, hb⟩
  have HN1 : Hid (NB w w1 0 0 0 0) := HNB.out.1.below hb
  clear hb HNB HW0
  obtain ⟨W1, hW1⟩ : ∃ W1, W1 = w1.alloc (.cells #[.int .i64 0, .int .i64 0] 25) := ⟨_, rfl⟩
  have HW1 : Hid (W1 = w1.alloc (.cells #[.int .i64 0, .int .i64 0] 25)) := hW1
  have HQ : Hid (NB w W1 0 0 0 0) := by show NB _ _ _ _ _ _; rw [hW1]; exact HN1.out.alloc _
  have HE : Hid (NB w ((((W1.setCell ⟨w.heap.size, 0, none⟩ (.int .i64 0)).setCell ⟨w.heap.size, 1, none⟩ (.int .i64 0)).setCell ⟨w.heap.size + 1, 0, none⟩ (.int .i64 3)).setCell ⟨w.heap.size + 1, 1, none⟩ (.int .i64 1)) 0 0 3 1) := HQ.out.set 0 0 3 1
  clear hW1
  go_upto_region 5 with fail
  rw [← HW1.out]
  have q0 := HQ.out.x.cell 0
  have q1 := HQ.out.x.cell 1
  have q2 := HQ.out.y.cell 0
  have q3 := HQ.out.y.cell 1
  have q4 := HQ.out.x.frozen 0
  have q5 := HQ.out.x.frozen 1
  have q6 := HQ.out.y.frozen 0
  have q7 := HQ.out.y.frozen 1
  have hz1 := HQ.out.x.lt
  have hz2 := HQ.out.y.lt
  simp only [List.getElem?_cons_zero, List.getElem?_cons_succ] at q0 q1 q2 q3
  clear HW1 HN1
  go_wp2
  have r0 := HE.out.x.cell 0
  have r1 := HE.out.x.cell 1
  have r2 := HE.out.y.cell 0
  have r3 := HE.out.y.cell 1
  simp only [List.getElem?_cons_zero, List.getElem?_cons_succ] at r0 r1 r2 r3
  have kk := HE.out.k
  generalize ((((W1.setCell ⟨w.heap.size, 0, none⟩ (.int .i64 0)).setCell ⟨w.heap.size, 1, none⟩ (.int .i64 0)).setCell ⟨w.heap.size + 1, 0, none⟩ (.int .i64 3)).setCell ⟨w.heap.size + 1, 1, none⟩ (.int .i64 1)) = WF at *
  exact bodyPost_ret (v := .tuple #[.agg #[.int .i64 0, .int .i64 0], .agg #[.int .i64 3, .int .i64 1]]) (by simp [results, Tryz.results9, go_sem, r0, r1, r2, r3]) rfl ⟨rfl, kk⟩

set_option maxHeartbeats 1000000 in
theorem Near_m (a b most : Int) (w : World) (hcd : nf 0 [a, b, most] = (0, 0)) (hb0 : ¬ b < 1) (hm0 : most < 1) :
    Calls Tryz.prog 9 #[.int .i64 a, .int .i64 b, .int .i64 most] w fun e w' => e = .returned (.tuple #[.agg #[.int .i64 0, .int .i64 0], .agg #[.int .i64 3, .int .i64 2]]) ∧ Below w.heap.size w w' := by
  have HCD : Hid (nf 0 [a, b, most] = (0, 0)) := hcd
  clear hcd
  obtain ⟨W0, hW0⟩ : ∃ W0, W0 = ((w.alloc (.cells #[.int .i64 0, .int .i64 0] 23)).alloc (.cells #[.int .i64 0, .int .i64 0] 25)).alloc (.cells #[.int .i64 a, .int .i64 b, .int .i64 most] 3) := ⟨_, rfl⟩
  have HW0 : Hid (W0 = ((w.alloc (.cells #[.int .i64 0, .int .i64 0] 23)).alloc (.cells #[.int .i64 0, .int .i64 0] 25)).alloc (.cells #[.int .i64 a, .int .i64 b, .int .i64 most] 3)) := hW0
  have HNB : Hid (NB w W0 0 0 0 0 ∧ Cl (w.heap.size + 2) [.int .i64 a, .int .i64 b, .int .i64 most] 3 W0) := by
    show _ ∧ _
    rw [hW0]; exact nb_new a b most w
  clear hW0
  go_enter Tryz.func9, Tryz.ntmps9
  go_wp2_with fail
  rw [← HW0.out]
  refine (numbersFault_any [a, b, most] (w.heap.size + 2) 0 3 W0 (by simp) HNB.out.2.lt (three_c a b most _ _ (HNB.out.2.cell 0) (HNB.out.2.cell 1) (HNB.out.2.cell 2))).mono ?_
  rw [HCD.out]
  rintro e w1 ⟨rfl, hb⟩
  have HN1 : Hid (NB w w1 0 0 0 0) := HNB.out.1.below hb
  clear hb HNB HW0
  obtain ⟨W1, hW1⟩ : ∃ W1, W1 = w1.alloc (.cells #[.int .i64 0, .int .i64 0] 25) := ⟨_, rfl⟩
  have HW1 : Hid (W1 = w1.alloc (.cells #[.int .i64 0, .int .i64 0] 25)) := hW1
  have HQ : Hid (NB w W1 0 0 0 0) := by show NB _ _ _ _ _ _; rw [hW1]; exact HN1.out.alloc _
  have HE : Hid (NB w ((((W1.setCell ⟨w.heap.size, 0, none⟩ (.int .i64 0)).setCell ⟨w.heap.size, 1, none⟩ (.int .i64 0)).setCell ⟨w.heap.size + 1, 0, none⟩ (.int .i64 3)).setCell ⟨w.heap.size + 1, 1, none⟩ (.int .i64 2)) 0 0 3 2) := HQ.out.set 0 0 3 2
  clear hW1
  go_upto_region 7 with fail
  rw [← HW1.out]
  have q0 := HQ.out.x.cell 0
  have q1 := HQ.out.x.cell 1
  have q2 := HQ.out.y.cell 0
  have q3 := HQ.out.y.cell 1
  have q4 := HQ.out.x.frozen 0
  have q5 := HQ.out.x.frozen 1
  have q6 := HQ.out.y.frozen 0
  have q7 := HQ.out.y.frozen 1
  have hz1 := HQ.out.x.lt
  have hz2 := HQ.out.y.lt
  simp only [List.getElem?_cons_zero, List.getElem?_cons_succ] at q0 q1 q2 q3
  clear HW1 HN1
  go_wp2
  have r0 := HE.out.x.cell 0
  have r1 := HE.out.x.cell 1
  have r2 := HE.out.y.cell 0
  have r3 := HE.out.y.cell 1
  simp only [List.getElem?_cons_zero, List.getElem?_cons_succ] at r0 r1 r2 r3
  have kk := HE.out.k
  generalize ((((W1.setCell ⟨w.heap.size, 0, none⟩ (.int .i64 0)).setCell ⟨w.heap.size, 1, none⟩ (.int .i64 0)).setCell ⟨w.heap.size + 1, 0, none⟩ (.int .i64 3)).setCell ⟨w.heap.size + 1, 1, none⟩ (.int .i64 2)) = WF at *
  exact bodyPost_ret (v := .tuple #[.agg #[.int .i64 0, .int .i64 0], .agg #[.int .i64 3, .int .i64 2]]) (by simp [results, Tryz.results9, go_sem, r0, r1, r2, r3]) rfl ⟨rfl, kk⟩

set_option maxHeartbeats 1000000 in
theorem Near_ok (a b most : Int) (w : World) (hcd : nf 0 [a, b, most] = (0, 0)) (ha : a.natAbs ≤ 1000000000000000000) (hb0 : ¬ b < 1) (hb : b ≤ 1000000000000000000) (hm0 : ¬ most < 1) (hm : most ≤ 1000000000000000000) :
    Calls Tryz.prog 9 #[.int .i64 a, .int .i64 b, .int .i64 most] w fun e w' => ∃ P Q, e = .returned (.tuple #[.agg #[.int .i64 P, .int .i64 Q], .agg #[.int .i64 0, .int .i64 0]]) ∧ BestF a b most P Q ∧ P.natAbs ≤ 1000000000000000000 ∧ Below w.heap.size w w' := by
  have HCD : Hid (nf 0 [a, b, most] = (0, 0)) := hcd
  have HNe : Hid (∀ w, Calls Tryz.prog 58 #[.int .i64 a, .int .i64 b, .int .i64 most] w fun e w' => ∃ P Q G, e = .returned (apv P Q G) ∧ BestF a b most P Q ∧ P.natAbs ≤ 1000000000000000000 ∧ Below w.heap.size w w') := fun w => near_any a b most w ha (by omega) hb (by omega) hm
  clear hcd ha hb hm
  obtain ⟨W0, hW0⟩ : ∃ W0, W0 = ((w.alloc (.cells #[.int .i64 0, .int .i64 0] 23)).alloc (.cells #[.int .i64 0, .int .i64 0] 25)).alloc (.cells #[.int .i64 a, .int .i64 b, .int .i64 most] 3) := ⟨_, rfl⟩
  have HW0 : Hid (W0 = ((w.alloc (.cells #[.int .i64 0, .int .i64 0] 23)).alloc (.cells #[.int .i64 0, .int .i64 0] 25)).alloc (.cells #[.int .i64 a, .int .i64 b, .int .i64 most] 3)) := hW0
  have HNB : Hid (NB w W0 0 0 0 0 ∧ Cl (w.heap.size + 2) [.int .i64 a, .int .i64 b, .int .i64 most] 3 W0) := by
    show _ ∧ _
    rw [hW0]; exact nb_new a b most w
  clear hW0
  go_enter Tryz.func9, Tryz.ntmps9
  go_wp2_with fail
  rw [← HW0.out]
  refine (numbersFault_any [a, b, most] (w.heap.size + 2) 0 3 W0 (by simp) HNB.out.2.lt (three_c a b most _ _ (HNB.out.2.cell 0) (HNB.out.2.cell 1) (HNB.out.2.cell 2))).mono ?_
  rw [HCD.out]
  rintro e w1 ⟨rfl, hb⟩
  have HN1 : Hid (NB w w1 0 0 0 0) := HNB.out.1.below hb
  clear hb HNB HW0
  obtain ⟨W1, hW1⟩ : ∃ W1, W1 = w1.alloc (.cells #[.int .i64 0, .int .i64 0] 25) := ⟨_, rfl⟩
  have HW1 : Hid (W1 = w1.alloc (.cells #[.int .i64 0, .int .i64 0] 25)) := hW1
  have HQ1 : Hid (NB w W1 0 0 0 0) := by show NB _ _ _ _ _ _; rw [hW1]; exact HN1.out.alloc _
  clear hW1
  go_wp2_with fail
  rw [← HW1.out]
  refine (HNe.out W1).mono ?_
  rintro e w2 ⟨P, Q, G, rfl, hB, hP, k2⟩
  have HB : Hid (BestF a b most P Q ∧ P.natAbs ≤ 1000000000000000000) := ⟨hB, hP⟩
  obtain ⟨W2, hW2⟩ : ∃ W2, W2 = w2.alloc (.cells #[.int .i64 P, .int .i64 Q, .int .i64 G] 97) := ⟨_, rfl⟩
  have HW2 : Hid (W2 = w2.alloc (.cells #[.int .i64 P, .int .i64 Q, .int .i64 G] 97)) := hW2
  have HQ : Hid (NB w W2 0 0 0 0) := by show NB _ _ _ _ _ _; rw [hW2]; exact (HQ1.out.below k2).alloc _
  have C1 : Cl w2.heap.size [.int .i64 P, .int .i64 Q, .int .i64 G] 97 W2 := by rw [hW2]; exact Cl.new [.int .i64 P, .int .i64 Q, .int .i64 G] _ w2
  have HE : Hid (NB w ((((W2.setCell ⟨w.heap.size, 0, none⟩ (.int .i64 P)).setCell ⟨w.heap.size, 1, none⟩ (.int .i64 Q)).setCell ⟨w.heap.size + 1, 0, none⟩ (.int .i64 0)).setCell ⟨w.heap.size + 1, 1, none⟩ (.int .i64 0)) P Q 0 0) := HQ.out.set P Q 0 0
  clear hW2 hB hP k2 HW1 HQ1 HN1 HNe HCD
  unfold apv
  go_upto_region 9 with fail
  rw [← HW2.out]
  clear HW2
  have q0 := HQ.out.x.cell 0
  have q1 := HQ.out.x.cell 1
  have q2 := HQ.out.y.cell 0
  have q3 := HQ.out.y.cell 1
  have q4 := HQ.out.x.frozen 0
  have q5 := HQ.out.x.frozen 1
  have q6 := HQ.out.y.frozen 0
  have q7 := HQ.out.y.frozen 1
  have hz1 := HQ.out.x.lt
  have hz2 := HQ.out.y.lt
  simp only [List.getElem?_cons_zero, List.getElem?_cons_succ] at q0 q1 q2 q3
  have s0 := C1.cell 0
  have s1 := C1.cell 1
  simp only [List.getElem?_cons_zero, List.getElem?_cons_succ] at s0 s1
  clear C1
  go_wp2
  have r0 := HE.out.x.cell 0
  have r1 := HE.out.x.cell 1
  have r2 := HE.out.y.cell 0
  have r3 := HE.out.y.cell 1
  simp only [List.getElem?_cons_zero, List.getElem?_cons_succ] at r0 r1 r2 r3
  have kk := HE.out.k
  generalize ((((W2.setCell ⟨w.heap.size, 0, none⟩ (.int .i64 P)).setCell ⟨w.heap.size, 1, none⟩ (.int .i64 Q)).setCell ⟨w.heap.size + 1, 0, none⟩ (.int .i64 0)).setCell ⟨w.heap.size + 1, 1, none⟩ (.int .i64 0)) = WF at *
  exact bodyPost_ret (v := .tuple #[.agg #[.int .i64 P, .int .i64 Q], .agg #[.int .i64 0, .int .i64 0]]) (by simp [results, Tryz.results9, go_sem, r0, r1, r2, r3]) rfl ⟨P, Q, rfl, HB.out.1, HB.out.2, kk⟩

end Go.Proofs.YtfbgblidlabipaaGreatDoor
