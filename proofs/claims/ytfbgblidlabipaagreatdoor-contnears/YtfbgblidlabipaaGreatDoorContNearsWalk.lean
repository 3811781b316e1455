/- The law ContNears returns true, given the table. -/
import Derived.Test.YtfbgblidlabipaaGreatDoorCnJ
import Derived.Test.YtfbgblidlabipaaGreatDoorCnZ
import Derived.Test.YtfbgblidlabipaaGreatDoorJoinU
import Derived.Test.YtfbgblidlabipaaGreatDoorJoinC
import Derived.Deep.CutRange
set_option linter.unusedSimpArgs false
set_option linter.unusedVariables false
set_option maxRecDepth 100000
namespace Go.Proofs.YtfbgblidlabipaaGreatDoor
open Go.RowKit
open CnM

/-- The law's boxes: what Near answered, its fault, and the one that is asked. -/
structure LB (w W : World) (b7 b9 : Nat) (P Q c d u v : Int) : Prop where
  x : Cl b7 [.int .i64 P, .int .i64 Q] 23 W
  f : Cl (b7 + 1) [.int .i64 c, .int .i64 d] 25 W
  g : Cl b9 [.int .i64 u, .int .i64 v] 25 W
  k : Below w.heap.size w W
  l : w.heap.size ≤ b9
  n : b7 + 1 < b9
theorem LB.below {w W W' : World} {b7 b9 : Nat} {P Q c d u v : Int} (h : LB w W b7 b9 P Q c d u v) (k : Below W.heap.size W W') : LB w W' b7 b9 P Q c d u v :=
  ⟨h.x.below k, h.f.below k, h.g.below k, h.k.trans (k.mono h.k.size), h.l, h.n⟩
theorem LB.set {w W : World} {b7 b9 : Nat} {P Q c d u v : Int} (h : LB w W b7 b9 P Q c d u v) (x y : Int) : LB w ((W.setCell ⟨b9, 0, none⟩ (.int .i64 x)).setCell ⟨b9, 1, none⟩ (.int .i64 y)) b7 b9 P Q c d x y := by
  have n := h.n
  refine ⟨(h.x.other (p := ⟨b9, 0, none⟩) (by simp; omega) _).other (p := ⟨b9, 1, none⟩) (by simp; omega) _, (h.f.other (p := ⟨b9, 0, none⟩) (by simp; omega) _).other (p := ⟨b9, 1, none⟩) (by simp; omega) _, (h.g.set 0 _).set 1 _, (h.k.setCell (p := ⟨b9, 0, none⟩) h.l _).setCell (p := ⟨b9, 1, none⟩) h.l _, h.l, h.n⟩
/-- Ahead of the reference's fault. -/
theorem lb_new (a b most P Q c d : Int) {w w1 : World} (k : Below w.heap.size w w1) : Cl w1.heap.size [.int .i64 P, .int .i64 Q] 23 (((w1.alloc (.cells #[.int .i64 P, .int .i64 Q] 23)).alloc (.cells #[.int .i64 c, .int .i64 d] 25)).alloc (.cells #[.int .i64 a, .int .i64 b, .int .i64 most] 3)) ∧ Cl (w1.heap.size + 1) [.int .i64 c, .int .i64 d] 25 (((w1.alloc (.cells #[.int .i64 P, .int .i64 Q] 23)).alloc (.cells #[.int .i64 c, .int .i64 d] 25)).alloc (.cells #[.int .i64 a, .int .i64 b, .int .i64 most] 3)) ∧ Cl (w1.heap.size + 2) [.int .i64 a, .int .i64 b, .int .i64 most] 3 (((w1.alloc (.cells #[.int .i64 P, .int .i64 Q] 23)).alloc (.cells #[.int .i64 c, .int .i64 d] 25)).alloc (.cells #[.int .i64 a, .int .i64 b, .int .i64 most] 3)) ∧ Below w.heap.size w (((w1.alloc (.cells #[.int .i64 P, .int .i64 Q] 23)).alloc (.cells #[.int .i64 c, .int .i64 d] 25)).alloc (.cells #[.int .i64 a, .int .i64 b, .int .i64 most] 3)) := by
  have h1 := (Cl.new [.int .i64 c, .int .i64 d] 25 (w1.alloc (.cells #[.int .i64 P, .int .i64 Q] 23))).alloc (.cells #[.int .i64 a, .int .i64 b, .int .i64 most] 3)
  have h2 := Cl.new [.int .i64 a, .int .i64 b, .int .i64 most] 3 ((w1.alloc (.cells #[.int .i64 P, .int .i64 Q] 23)).alloc (.cells #[.int .i64 c, .int .i64 d] 25))
  rw [World.size_alloc] at h1
  rw [World.size_alloc, World.size_alloc] at h2
  have kz := k.size
  exact ⟨((Cl.new [.int .i64 P, .int .i64 Q] 23 w1).alloc _).alloc _, h1, h2, ((k.alloc kz _).alloc (by simp; omega) _).alloc (by simp; omega) _⟩


set_option maxHeartbeats 4000000 in
theorem cn_bad (a b most c d : Int) (w : World) (hT : Tq w) (hcd : nf 0 [a, b, most] = (c, d)) (hc : c ≠ 0) :
    Calls Tryz.prog 3 #[.int .i64 a, .int .i64 b, .int .i64 most] w fun e w' => e = .returned (.bool true) ∧ Below w.heap.size w w' := by
  have hne : (c != 0) = true := bne_iff_ne.2 hc
  have hne2 : (c == 0) = false := beq_eq_false_iff_ne.2 hc
  have HNf : Hid (nf 0 [a, b, most] = (c, d)) := hcd
  have HNr : Hid (∀ w, Calls Tryz.prog 9 #[.int .i64 a, .int .i64 b, .int .i64 most] w fun e w' => e = .returned (.tuple #[.agg #[.int .i64 0, .int .i64 0], .agg #[.int .i64 c, .int .i64 d]]) ∧ Below w.heap.size w w') := fun w => Near_bad a b most c d w hcd hc
  clear hcd hc
  have HT : Hid (∀ W, Below w.heap.size w W → Tq W) := fun W k => hT.below k
  have HBg : Hid (∀ w, Tq w → Calls Tryz.prog 12 #[] w fun e w' => e = .returned (.bool true) ∧ Below w.heap.size w w') := contBegun_any
  have HF : Hid (∀ c a w, Calls Tryz.prog 11 #[.int .i64 c, .int .i64 a] w fun e w' => e = .returned (.agg #[.int .i64 c, .int .i64 a]) ∧ Below w.heap.size w w') := F_any
  clear hT
  go_enter Tryz.func3, Tryz.ntmps3
  go_wp2_with fail
  refine (HNr.out w).mono ?_
  rintro e w1 ⟨rfl, k1⟩
  obtain ⟨W1, hW1⟩ : ∃ W1, W1 = ((w1.alloc (.cells #[.int .i64 0, .int .i64 0] 23)).alloc (.cells #[.int .i64 c, .int .i64 d] 25)).alloc (.cells #[.int .i64 a, .int .i64 b, .int .i64 most] 3) := ⟨_, rfl⟩
  have HW1 : Hid (W1 = ((w1.alloc (.cells #[.int .i64 0, .int .i64 0] 23)).alloc (.cells #[.int .i64 c, .int .i64 d] 25)).alloc (.cells #[.int .i64 a, .int .i64 b, .int .i64 most] 3)) := hW1
  have HX : Hid (Cl w1.heap.size [.int .i64 0, .int .i64 0] 23 W1 ∧ Cl (w1.heap.size + 1) [.int .i64 c, .int .i64 d] 25 W1 ∧ Cl (w1.heap.size + 2) [.int .i64 a, .int .i64 b, .int .i64 most] 3 W1 ∧ Below w.heap.size w W1) := by
    show _ ∧ _
    rw [hW1]; exact lb_new a b most 0 0 c d k1
  clear hW1 k1
  go_wp2_with fail
  rw [← HW1.out]
  refine (refNumbersFault_any [a, b, most] (w1.heap.size + 2) 0 3 W1 (by simp) HX.out.2.2.1.lt (three_c a b most _ _ (HX.out.2.2.1.cell 0) (HX.out.2.2.1.cell 1) (HX.out.2.2.1.cell 2))).mono ?_
  rw [HNf.out]
  rintro e w2 ⟨rfl, k2⟩
  obtain ⟨W2, hW2⟩ : ∃ W2, W2 = w2.alloc (.cells #[.int .i64 c, .int .i64 d] 25) := ⟨_, rfl⟩
  have HW2 : Hid (W2 = w2.alloc (.cells #[.int .i64 c, .int .i64 d] 25)) := hW2
  have HL2 : Hid (LB w W2 w1.heap.size w2.heap.size 0 0 c d c d) := by
    have z := k2.size
    have z1 := HX.out.2.2.1.lt
    have kk := HX.out.2.2.2.trans (k2.mono HX.out.2.2.2.size)
    have z2 := kk.size
    show LB _ _ _ _ _ _ _ _ _ _
    rw [hW2]
    exact ⟨(HX.out.1.below k2).alloc _, (HX.out.2.1.below k2).alloc _, Cl.new [.int .i64 c, .int .i64 d] _ w2, kk.alloc z2 _, z2, by omega⟩
  clear hW2 k2 HX HW1
  have g0 := HL2.out.g.cell 0
  simp only [List.getElem?_cons_zero] at g0
  rw [HW2.out] at g0
  go_wp2_with fail
  rw [← HW2.out]
  clear g0
  refine (HBg.out W2 (HT.out W2 HL2.out.k)).mono ?_
  rintro e w3 ⟨rfl, k3⟩
  have HL : Hid (LB w w3 w1.heap.size w2.heap.size 0 0 c d c d) := HL2.out.below k3
  have q0 := HL.out.x.cell 0
  have q1 := HL.out.x.cell 1
  have q2 := HL.out.f.cell 0
  have q3 := HL.out.f.cell 1
  have q4 := HL.out.g.cell 0
  have q5 := HL.out.g.cell 1
  simp only [List.getElem?_cons_zero, List.getElem?_cons_succ] at q0 q1 q2 q3 q4 q5
  clear k3 HL2 HW2
  go_wp2
  go_ret
  exact ⟨rfl, HL.out.k⟩

set_option maxHeartbeats 4000000 in
theorem cn_b (a b most : Int) (w : World) (hT : Tq w) (hcd : nf 0 [a, b, most] = (0, 0)) (hb0 : b < 1) :
    Calls Tryz.prog 3 #[.int .i64 a, .int .i64 b, .int .i64 most] w fun e w' => e = .returned (.bool true) ∧ Below w.heap.size w w' := by
  have HNf : Hid (nf 0 [a, b, most] = (0, 0)) := hcd
  have HNr : Hid (∀ w, Calls Tryz.prog 9 #[.int .i64 a, .int .i64 b, .int .i64 most] w fun e w' => e = .returned (.tuple #[.agg #[.int .i64 0, .int .i64 0], .agg #[.int .i64 3, .int .i64 1]]) ∧ Below w.heap.size w w') := fun w => Near_b a b most w hcd hb0
  clear hcd
  have HT : Hid (∀ W, Below w.heap.size w W → Tq W) := fun W k => hT.below k
  have HBg : Hid (∀ w, Tq w → Calls Tryz.prog 12 #[] w fun e w' => e = .returned (.bool true) ∧ Below w.heap.size w w') := contBegun_any
  have HF : Hid (∀ c a w, Calls Tryz.prog 11 #[.int .i64 c, .int .i64 a] w fun e w' => e = .returned (.agg #[.int .i64 c, .int .i64 a]) ∧ Below w.heap.size w w') := F_any
  clear hT
  go_enter Tryz.func3, Tryz.ntmps3
  go_wp2_with fail
  refine (HNr.out w).mono ?_
  rintro e w1 ⟨rfl, k1⟩
  obtain ⟨W1, hW1⟩ : ∃ W1, W1 = ((w1.alloc (.cells #[.int .i64 0, .int .i64 0] 23)).alloc (.cells #[.int .i64 3, .int .i64 1] 25)).alloc (.cells #[.int .i64 a, .int .i64 b, .int .i64 most] 3) := ⟨_, rfl⟩
  have HW1 : Hid (W1 = ((w1.alloc (.cells #[.int .i64 0, .int .i64 0] 23)).alloc (.cells #[.int .i64 3, .int .i64 1] 25)).alloc (.cells #[.int .i64 a, .int .i64 b, .int .i64 most] 3)) := hW1
  have HX : Hid (Cl w1.heap.size [.int .i64 0, .int .i64 0] 23 W1 ∧ Cl (w1.heap.size + 1) [.int .i64 3, .int .i64 1] 25 W1 ∧ Cl (w1.heap.size + 2) [.int .i64 a, .int .i64 b, .int .i64 most] 3 W1 ∧ Below w.heap.size w W1) := by
    show _ ∧ _
    rw [hW1]; exact lb_new a b most 0 0 3 1 k1
  clear hW1 k1
  go_wp2_with fail
  rw [← HW1.out]
  refine (refNumbersFault_any [a, b, most] (w1.heap.size + 2) 0 3 W1 (by simp) HX.out.2.2.1.lt (three_c a b most _ _ (HX.out.2.2.1.cell 0) (HX.out.2.2.1.cell 1) (HX.out.2.2.1.cell 2))).mono ?_
  rw [HNf.out]
  rintro e w2 ⟨rfl, k2⟩
  obtain ⟨W2, hW2⟩ : ∃ W2, W2 = w2.alloc (.cells #[.int .i64 0, .int .i64 0] 25) := ⟨_, rfl⟩
  have HW2 : Hid (W2 = w2.alloc (.cells #[.int .i64 0, .int .i64 0] 25)) := hW2
  have HL2 : Hid (LB w W2 w1.heap.size w2.heap.size 0 0 3 1 0 0) := by
    have z := k2.size
    have z1 := HX.out.2.2.1.lt
    have kk := HX.out.2.2.2.trans (k2.mono HX.out.2.2.2.size)
    have z2 := kk.size
    show LB _ _ _ _ _ _ _ _ _ _
    rw [hW2]
    exact ⟨(HX.out.1.below k2).alloc _, (HX.out.2.1.below k2).alloc _, Cl.new [.int .i64 0, .int .i64 0] _ w2, kk.alloc z2 _, z2, by omega⟩
  clear hW2 k2 HX HW1
  have g0 := HL2.out.g.cell 0
  simp only [List.getElem?_cons_zero] at g0
  rw [HW2.out] at g0
  go_wp2_with fail
  rw [← HW2.out]
  clear g0
  refine (HF.out 3 1 W2).mono ?_
  rintro e w3 ⟨rfl, k3⟩
  have HL3 : Hid (LB w w3 w1.heap.size w2.heap.size 0 0 3 1 0 0) := HL2.out.below k3
  have g0 := HL3.out.g.cell 0
  have g1 := HL3.out.g.cell 1
  have g2 := HL3.out.g.frozen 0
  have g3 := HL3.out.g.frozen 1
  simp only [List.getElem?_cons_zero, List.getElem?_cons_succ] at g0 g1
  have HL4 : Hid (LB w ((w3.setCell ⟨w2.heap.size, 0, none⟩ (.int .i64 3)).setCell ⟨w2.heap.size, 1, none⟩ (.int .i64 1)) w1.heap.size w2.heap.size 0 0 3 1 3 1) := HL3.out.set 3 1
  clear k3 HL2 HW2 HL3
  go_wp2_with fail
  generalize (w3.setCell ⟨w2.heap.size, 0, none⟩ (.int .i64 3)).setCell ⟨w2.heap.size, 1, none⟩ (.int .i64 1) = W4 at *
  refine (HBg.out W4 (HT.out W4 HL4.out.k)).mono ?_
  rintro e w5 ⟨rfl, k5⟩
  have HL : Hid (LB w w5 w1.heap.size w2.heap.size 0 0 3 1 3 1) := HL4.out.below k5
  have q0 := HL.out.x.cell 0
  have q1 := HL.out.x.cell 1
  have q2 := HL.out.f.cell 0
  have q3 := HL.out.f.cell 1
  have q4 := HL.out.g.cell 0
  have q5 := HL.out.g.cell 1
  simp only [List.getElem?_cons_zero, List.getElem?_cons_succ] at q0 q1 q2 q3 q4 q5
  clear k5 HL4 g0 g1 g2 g3
  go_wp2
  go_ret
  exact ⟨rfl, HL.out.k⟩

set_option maxHeartbeats 4000000 in
theorem cn_m (a b most : Int) (w : World) (hT : Tq w) (hcd : nf 0 [a, b, most] = (0, 0)) (hb0 : ¬ b < 1) (hm0 : most < 1) :
    Calls Tryz.prog 3 #[.int .i64 a, .int .i64 b, .int .i64 most] w fun e w' => e = .returned (.bool true) ∧ Below w.heap.size w w' := by
  have HNf : Hid (nf 0 [a, b, most] = (0, 0)) := hcd
  have HNr : Hid (∀ w, Calls Tryz.prog 9 #[.int .i64 a, .int .i64 b, .int .i64 most] w fun e w' => e = .returned (.tuple #[.agg #[.int .i64 0, .int .i64 0], .agg #[.int .i64 3, .int .i64 2]]) ∧ Below w.heap.size w w') := fun w => Near_m a b most w hcd hb0 hm0
  clear hcd
  have HT : Hid (∀ W, Below w.heap.size w W → Tq W) := fun W k => hT.below k
  have HBg : Hid (∀ w, Tq w → Calls Tryz.prog 12 #[] w fun e w' => e = .returned (.bool true) ∧ Below w.heap.size w w') := contBegun_any
  have HF : Hid (∀ c a w, Calls Tryz.prog 11 #[.int .i64 c, .int .i64 a] w fun e w' => e = .returned (.agg #[.int .i64 c, .int .i64 a]) ∧ Below w.heap.size w w') := F_any
  clear hT
  go_enter Tryz.func3, Tryz.ntmps3
  go_wp2_with fail
  refine (HNr.out w).mono ?_
  rintro e w1 ⟨rfl, k1⟩
  obtain ⟨W1, hW1⟩ : ∃ W1, W1 = ((w1.alloc (.cells #[.int .i64 0, .int .i64 0] 23)).alloc (.cells #[.int .i64 3, .int .i64 2] 25)).alloc (.cells #[.int .i64 a, .int .i64 b, .int .i64 most] 3) := ⟨_, rfl⟩
  have HW1 : Hid (W1 = ((w1.alloc (.cells #[.int .i64 0, .int .i64 0] 23)).alloc (.cells #[.int .i64 3, .int .i64 2] 25)).alloc (.cells #[.int .i64 a, .int .i64 b, .int .i64 most] 3)) := hW1
  have HX : Hid (Cl w1.heap.size [.int .i64 0, .int .i64 0] 23 W1 ∧ Cl (w1.heap.size + 1) [.int .i64 3, .int .i64 2] 25 W1 ∧ Cl (w1.heap.size + 2) [.int .i64 a, .int .i64 b, .int .i64 most] 3 W1 ∧ Below w.heap.size w W1) := by
    show _ ∧ _
    rw [hW1]; exact lb_new a b most 0 0 3 2 k1
  clear hW1 k1
  go_wp2_with fail
  rw [← HW1.out]
  refine (refNumbersFault_any [a, b, most] (w1.heap.size + 2) 0 3 W1 (by simp) HX.out.2.2.1.lt (three_c a b most _ _ (HX.out.2.2.1.cell 0) (HX.out.2.2.1.cell 1) (HX.out.2.2.1.cell 2))).mono ?_
  rw [HNf.out]
  rintro e w2 ⟨rfl, k2⟩
  obtain ⟨W2, hW2⟩ : ∃ W2, W2 = w2.alloc (.cells #[.int .i64 0, .int .i64 0] 25) := ⟨_, rfl⟩
  have HW2 : Hid (W2 = w2.alloc (.cells #[.int .i64 0, .int .i64 0] 25)) := hW2
  have HL2 : Hid (LB w W2 w1.heap.size w2.heap.size 0 0 3 2 0 0) := by
    have z := k2.size
    have z1 := HX.out.2.2.1.lt
    have kk := HX.out.2.2.2.trans (k2.mono HX.out.2.2.2.size)
    have z2 := kk.size
    show LB _ _ _ _ _ _ _ _ _ _
    rw [hW2]
    exact ⟨(HX.out.1.below k2).alloc _, (HX.out.2.1.below k2).alloc _, Cl.new [.int .i64 0, .int .i64 0] _ w2, kk.alloc z2 _, z2, by omega⟩
  clear hW2 k2 HX HW1
  have g0 := HL2.out.g.cell 0
  simp only [List.getElem?_cons_zero] at g0
  rw [HW2.out] at g0
  go_wp2_with fail
  rw [← HW2.out]
  clear g0
  refine (HF.out 3 2 W2).mono ?_
  rintro e w3 ⟨rfl, k3⟩
  have HL3 : Hid (LB w w3 w1.heap.size w2.heap.size 0 0 3 2 0 0) := HL2.out.below k3
  have g0 := HL3.out.g.cell 0
  have g1 := HL3.out.g.cell 1
  have g2 := HL3.out.g.frozen 0
  have g3 := HL3.out.g.frozen 1
  simp only [List.getElem?_cons_zero, List.getElem?_cons_succ] at g0 g1
  have HL4 : Hid (LB w ((w3.setCell ⟨w2.heap.size, 0, none⟩ (.int .i64 3)).setCell ⟨w2.heap.size, 1, none⟩ (.int .i64 2)) w1.heap.size w2.heap.size 0 0 3 2 3 2) := HL3.out.set 3 2
  clear k3 HL2 HW2 HL3
  go_wp2_with fail
  generalize (w3.setCell ⟨w2.heap.size, 0, none⟩ (.int .i64 3)).setCell ⟨w2.heap.size, 1, none⟩ (.int .i64 2) = W4 at *
  refine (HBg.out W4 (HT.out W4 HL4.out.k)).mono ?_
  rintro e w5 ⟨rfl, k5⟩
  have HL : Hid (LB w w5 w1.heap.size w2.heap.size 0 0 3 2 3 2) := HL4.out.below k5
  have q0 := HL.out.x.cell 0
  have q1 := HL.out.x.cell 1
  have q2 := HL.out.f.cell 0
  have q3 := HL.out.f.cell 1
  have q4 := HL.out.g.cell 0
  have q5 := HL.out.g.cell 1
  simp only [List.getElem?_cons_zero, List.getElem?_cons_succ] at q0 q1 q2 q3 q4 q5
  clear k5 HL4 g0 g1 g2 g3
  go_wp2
  go_ret
  exact ⟨rfl, HL.out.k⟩

/-- The cells of what Near answered. -/
abbrev S2 (b : Nat) (P Q : Int) (W : World) : Prop := W.cell? ⟨b, 0, none⟩ = some (.int .i64 P) ∧ W.cell? ⟨b, 1, none⟩ = some (.int .i64 Q)

set_option maxHeartbeats 4000000 in
theorem cn_small (a b most : Int) (w : World) (hT : Tq w) (hcd : nf 0 [a, b, most] = (0, 0)) (ha : a.natAbs ≤ 1000000000000000000) (hb0 : ¬ b < 1) (hb : b ≤ 1000000000000000000) (hm0 : ¬ most < 1) (hm : most ≤ 1000000000000000000) (h3 : most ≤ 300) :
    Calls Tryz.prog 3 #[.int .i64 a, .int .i64 b, .int .i64 most] w fun e w' => e = .returned (.bool true) ∧ Below w.heap.size w w' := by
  have HNf : Hid (nf 0 [a, b, most] = (0, 0)) := hcd
  have HNr : Hid (∀ w, Calls Tryz.prog 9 #[.int .i64 a, .int .i64 b, .int .i64 most] w fun e w' => ∃ P Q, e = .returned (.tuple #[.agg #[.int .i64 P, .int .i64 Q], .agg #[.int .i64 0, .int .i64 0]]) ∧ BestF a b most P Q ∧ P.natAbs ≤ 1000000000000000000 ∧ Below w.heap.size w w') := fun w => Near_ok a b most w hcd ha hb0 hb hm0 hm
  clear hcd
  have HN0 : Hid (∀ w, Calls Tryz.prog 13 #[.int .i64 a, .int .i64 b, .int .i64 most] w fun e w' => ∃ P Q : Int, e = .returned (.agg #[.int .i64 P, .int .i64 Q]) ∧ BestF a b most P Q ∧ Below w.heap.size w w') := fun w => by
    obtain ⟨m, hm'⟩ : ∃ m : Nat, most = (m : Int) := ⟨most.toNat, by omega⟩
    rw [hm']
    exact NearOf_any a b m w ha (by omega) hb (by omega) (by omega)
  have HT : Hid (∀ W, Below w.heap.size w W → Tq W) := fun W k => hT.below k
  have HBg : Hid (∀ w, Tq w → Calls Tryz.prog 12 #[] w fun e w' => e = .returned (.bool true) ∧ Below w.heap.size w w') := contBegun_any
  have HF : Hid (∀ c a w, Calls Tryz.prog 11 #[.int .i64 c, .int .i64 a] w fun e w' => e = .returned (.agg #[.int .i64 c, .int .i64 a]) ∧ Below w.heap.size w w') := F_any
  clear hT
  go_enter Tryz.func3, Tryz.ntmps3
  go_wp2_with fail
  refine (HNr.out w).mono ?_
  rintro e w1 ⟨P, Q, rfl, hB, hP, k1⟩
  have HB : Hid (BestF a b most P Q ∧ P.natAbs ≤ 1000000000000000000) := ⟨hB, hP⟩
  clear hB hP HNr
  have HNo : Hid (∀ w, Calls Tryz.prog 13 #[.int .i64 a, .int .i64 b, .int .i64 most] w fun e w' => e = .returned (.agg #[.int .i64 P, .int .i64 Q]) ∧ Below w.heap.size w w') := fun w => by
    refine (HN0.out w).mono ?_
    rintro e w' ⟨P', Q', rfl, hB, k⟩
    obtain ⟨rfl, rfl⟩ := HB.out.1.uniq hB
    exact ⟨rfl, k⟩
  clear HN0
  obtain ⟨W1, hW1⟩ : ∃ W1, W1 = ((w1.alloc (.cells #[.int .i64 P, .int .i64 Q] 23)).alloc (.cells #[.int .i64 0, .int .i64 0] 25)).alloc (.cells #[.int .i64 a, .int .i64 b, .int .i64 most] 3) := ⟨_, rfl⟩
  have HW1 : Hid (W1 = ((w1.alloc (.cells #[.int .i64 P, .int .i64 Q] 23)).alloc (.cells #[.int .i64 0, .int .i64 0] 25)).alloc (.cells #[.int .i64 a, .int .i64 b, .int .i64 most] 3)) := hW1
  have HX : Hid (Cl w1.heap.size [.int .i64 P, .int .i64 Q] 23 W1 ∧ Cl (w1.heap.size + 1) [.int .i64 0, .int .i64 0] 25 W1 ∧ Cl (w1.heap.size + 2) [.int .i64 a, .int .i64 b, .int .i64 most] 3 W1 ∧ Below w.heap.size w W1) := by
    show _ ∧ _
    rw [hW1]; exact lb_new a b most P Q 0 0 k1
  clear hW1 k1
  go_wp2_with fail
  rw [← HW1.out]
  refine (refNumbersFault_any [a, b, most] (w1.heap.size + 2) 0 3 W1 (by simp) HX.out.2.2.1.lt (three_c a b most _ _ (HX.out.2.2.1.cell 0) (HX.out.2.2.1.cell 1) (HX.out.2.2.1.cell 2))).mono ?_
  rw [HNf.out]
  rintro e w2 ⟨rfl, k2⟩
  obtain ⟨W2, hW2⟩ : ∃ W2, W2 = w2.alloc (.cells #[.int .i64 0, .int .i64 0] 25) := ⟨_, rfl⟩
  have HW2 : Hid (W2 = w2.alloc (.cells #[.int .i64 0, .int .i64 0] 25)) := hW2
  have HL2 : Hid (LB w W2 w1.heap.size w2.heap.size P Q 0 0 0 0) := by
    have z := k2.size
    have z1 := HX.out.2.2.1.lt
    have kk := HX.out.2.2.2.trans (k2.mono HX.out.2.2.2.size)
    have z2 := kk.size
    show LB _ _ _ _ _ _ _ _ _ _
    rw [hW2]
    exact ⟨(HX.out.1.below k2).alloc _, (HX.out.2.1.below k2).alloc _, Cl.new [.int .i64 0, .int .i64 0] _ w2, kk.alloc z2 _, z2, by omega⟩
  clear hW2 k2 HX HW1
  have g0 := HL2.out.g.cell 0
  simp only [List.getElem?_cons_zero] at g0
  rw [HW2.out] at g0
  go_wp2_with fail
  rw [← HW2.out]
  clear g0
  refine (HBg.out W2 (HT.out W2 HL2.out.k)).mono ?_
  rintro e w3 ⟨rfl, k3⟩
  have HL : Hid (LB w w3 w1.heap.size w2.heap.size P Q 0 0 0 0) := HL2.out.below k3
  have q0 := HL.out.x.cell 0
  have q1 := HL.out.x.cell 1
  have q2 := HL.out.f.cell 0
  have q3 := HL.out.f.cell 1
  have q4 := HL.out.g.cell 0
  have q5 := HL.out.g.cell 1
  simp only [List.getElem?_cons_zero, List.getElem?_cons_succ] at q0 q1 q2 q3 q4 q5
  clear k3 HL2 HW2
  go_upto_region 12 with fail
  refine wp_region_G (S2 w1.heap.size P Q) 6 (by kernel_rfl) ⟨q0, q1⟩ (fun hHeld => ?_)
  refine wpAnyG_take (i := 0) (v := ?v0x1) rfl (by kernel_rfl) (fun _ _ _ h => h) (Or.inl ⟨by rfl, ?y0x1⟩) hHeld ?r0x1
  case y0x1 => (intro wS hSw; obtain ⟨s1, s2⟩ := hSw; go_simp; try with_reducible rfl)
  try simp only [Act.put, List.setIfInBounds_toArray, List.set_cons_zero, List.set_cons_succ]
  refine wpAnyG_take (i := 1) (v := ?v1x2) rfl (by kernel_rfl) (fun _ _ _ h => h) (Or.inl ⟨by rfl, ?y1x2⟩) hHeld ?r1x2
  case y1x2 => (intro wS hSw; obtain ⟨s1, s2⟩ := hSw; go_simp; try with_reducible rfl)
  try simp only [Act.put, List.setIfInBounds_toArray, List.set_cons_zero, List.set_cons_succ]
  refine wpAnyG_take (i := 2) (v := ?v2x3) rfl (by kernel_rfl) (fun _ _ _ h => h) (Or.inl ⟨by rfl, ?y2x3⟩) hHeld ?r2x3
  case y2x3 => (intro wS hSw; obtain ⟨s1, s2⟩ := hSw; go_simp; try with_reducible rfl)
  try simp only [Act.put, List.setIfInBounds_toArray, List.set_cons_zero, List.set_cons_succ]
  refine wpAnyG_take (i := 3) (v := ?v3x4) rfl (by kernel_rfl) (fun _ _ _ h => h) (Or.inl ⟨by rfl, ?y3x4⟩) hHeld ?r3x4
  case y3x4 => (intro wS hSw; obtain ⟨s1, s2⟩ := hSw; go_simp; try with_reducible rfl)
  try simp only [Act.put, List.setIfInBounds_toArray, List.set_cons_zero, List.set_cons_succ]
  refine wpAnyG_one (i := 4) rfl (by kernel_rfl) (fun K hK => ?_)
  go_simp
  refine (HNo.out _).mono ?_
  rintro e ua ⟨rfl, kua⟩
  have HLa : Hid (LB w ua w1.heap.size w2.heap.size P Q 0 0 0 0) := HL.out.below ((Below.refl _ _).drew.trans kua)
  have hS : S2 w1.heap.size P Q ua := ⟨HLa.out.x.cell 0, HLa.out.x.cell 1⟩
  clear kua
  refine hK.out _ _ hS ?_
  clear hK K
  try simp only [Act.put, List.setIfInBounds_toArray, List.set_cons_zero, List.set_cons_succ]
  clear hHeld q0 q1 q2 q3 q4 q5
  have hHeld : S2 w1.heap.size P Q ua := hS
  refine wpAnyG_take (i := 5) (v := .bool true) rfl (by kernel_rfl) (fun _ _ _ h => h) (Or.inl ⟨by kernel_rfl, ?y5x5⟩) hHeld ?r5x5
  case y5x5 => (intro wS hSw; obtain ⟨s1, s2⟩ := hSw; go_simp)
  try simp only [Act.put, List.setIfInBounds_toArray, List.set_cons_zero, List.set_cons_succ]
  refine wpAnyG_last (i := 6) rfl (by kernel_rfl) (by kernel_rfl) (fun K hK => ?_)
  go_simp
  refine hK.out _ _ ?_
  clear hK K
  try simp only [Act.put, List.setIfInBounds_toArray, List.set_cons_zero, List.set_cons_succ]
  refine wpAnyG_done (by kernel_rfl) ?_ _
  clear hHeld hS
  go_wp2
  go_ret
  exact ⟨rfl, HLa.out.k⟩

set_option maxHeartbeats 4000000 in
theorem cn_great (a b most : Int) (w : World) (hT : Tq w) (hcd : nf 0 [a, b, most] = (0, 0)) (ha : a.natAbs ≤ 1000000000000000000) (hb0 : ¬ b < 1) (hb : b ≤ 1000000000000000000) (hm0 : ¬ most < 1) (hm : most ≤ 1000000000000000000) (h3 : ¬ most ≤ 300) :
    Calls Tryz.prog 3 #[.int .i64 a, .int .i64 b, .int .i64 most] w fun e w' => e = .returned (.bool true) ∧ Below w.heap.size w w' := by
  have HNf : Hid (nf 0 [a, b, most] = (0, 0)) := hcd
  have HNr : Hid (∀ w, Calls Tryz.prog 9 #[.int .i64 a, .int .i64 b, .int .i64 most] w fun e w' => ∃ P Q, e = .returned (.tuple #[.agg #[.int .i64 P, .int .i64 Q], .agg #[.int .i64 0, .int .i64 0]]) ∧ BestF a b most P Q ∧ P.natAbs ≤ 1000000000000000000 ∧ Below w.heap.size w w') := fun w => Near_ok a b most w hcd ha hb0 hb hm0 hm
  clear hcd
  have HT : Hid (∀ W, Below w.heap.size w W → Tq W) := fun W k => hT.below k
  have HBg : Hid (∀ w, Tq w → Calls Tryz.prog 12 #[] w fun e w' => e = .returned (.bool true) ∧ Below w.heap.size w w') := contBegun_any
  have HF : Hid (∀ c a w, Calls Tryz.prog 11 #[.int .i64 c, .int .i64 a] w fun e w' => e = .returned (.agg #[.int .i64 c, .int .i64 a]) ∧ Below w.heap.size w w') := F_any
  clear hT
  go_enter Tryz.func3, Tryz.ntmps3
  go_wp2_with fail
  refine (HNr.out w).mono ?_
  rintro e w1 ⟨P, Q, rfl, hB, hP, k1⟩
  have HB : Hid (BestF a b most P Q ∧ P.natAbs ≤ 1000000000000000000) := ⟨hB, hP⟩
  clear hB hP HNr
  obtain ⟨W1, hW1⟩ : ∃ W1, W1 = ((w1.alloc (.cells #[.int .i64 P, .int .i64 Q] 23)).alloc (.cells #[.int .i64 0, .int .i64 0] 25)).alloc (.cells #[.int .i64 a, .int .i64 b, .int .i64 most] 3) := ⟨_, rfl⟩
  have HW1 : Hid (W1 = ((w1.alloc (.cells #[.int .i64 P, .int .i64 Q] 23)).alloc (.cells #[.int .i64 0, .int .i64 0] 25)).alloc (.cells #[.int .i64 a, .int .i64 b, .int .i64 most] 3)) := hW1
  have HX : Hid (Cl w1.heap.size [.int .i64 P, .int .i64 Q] 23 W1 ∧ Cl (w1.heap.size + 1) [.int .i64 0, .int .i64 0] 25 W1 ∧ Cl (w1.heap.size + 2) [.int .i64 a, .int .i64 b, .int .i64 most] 3 W1 ∧ Below w.heap.size w W1) := by
    show _ ∧ _
    rw [hW1]; exact lb_new a b most P Q 0 0 k1
  clear hW1 k1
  go_wp2_with fail
  rw [← HW1.out]
  refine (refNumbersFault_any [a, b, most] (w1.heap.size + 2) 0 3 W1 (by simp) HX.out.2.2.1.lt (three_c a b most _ _ (HX.out.2.2.1.cell 0) (HX.out.2.2.1.cell 1) (HX.out.2.2.1.cell 2))).mono ?_
  rw [HNf.out]
  rintro e w2 ⟨rfl, k2⟩
  obtain ⟨W2, hW2⟩ : ∃ W2, W2 = w2.alloc (.cells #[.int .i64 0, .int .i64 0] 25) := ⟨_, rfl⟩
  have HW2 : Hid (W2 = w2.alloc (.cells #[.int .i64 0, .int .i64 0] 25)) := hW2
  have HL2 : Hid (LB w W2 w1.heap.size w2.heap.size P Q 0 0 0 0) := by
    have z := k2.size
    have z1 := HX.out.2.2.1.lt
    have kk := HX.out.2.2.2.trans (k2.mono HX.out.2.2.2.size)
    have z2 := kk.size
    show LB _ _ _ _ _ _ _ _ _ _
    rw [hW2]
    exact ⟨(HX.out.1.below k2).alloc _, (HX.out.2.1.below k2).alloc _, Cl.new [.int .i64 0, .int .i64 0] _ w2, kk.alloc z2 _, z2, by omega⟩
  clear hW2 k2 HX HW1
  have g0 := HL2.out.g.cell 0
  simp only [List.getElem?_cons_zero] at g0
  rw [HW2.out] at g0
  go_wp2_with fail
  rw [← HW2.out]
  clear g0
  refine (HBg.out W2 (HT.out W2 HL2.out.k)).mono ?_
  rintro e w3 ⟨rfl, k3⟩
  have HL : Hid (LB w w3 w1.heap.size w2.heap.size P Q 0 0 0 0) := HL2.out.below k3
  have q0 := HL.out.x.cell 0
  have q1 := HL.out.x.cell 1
  have q2 := HL.out.f.cell 0
  have q3 := HL.out.f.cell 1
  have q4 := HL.out.g.cell 0
  have q5 := HL.out.g.cell 1
  simp only [List.getElem?_cons_zero, List.getElem?_cons_succ] at q0 q1 q2 q3 q4 q5
  clear k3 HL2 HW2
  have HQ : Hid (1 ≤ Q ∧ Q ≤ most ∧ Int.gcd P Q = 1) := ⟨HB.out.1.pos, HB.out.1.le, best_low HB.out.1⟩
  have t1 : decide ((1 : Int) ≤ Q) = true := decide_eq_true HQ.out.1
  have t2 : decide (Q ≤ most) = true := decide_eq_true HQ.out.2.1
  go_wp2_with fail
  refine (refGcd_nat P.natAbs Q.natAbs w3 HB.out.2 (by have := HQ.out; omega) P Q rfl rfl).mono ?_
  rintro e w4 ⟨rfl, hw4⟩
  rw [hw4, HQ.out.2.2]
  go_wp2
  go_ret
  exact ⟨rfl, HL.out.k⟩

theorem nf3 (a b most : Int) : (nf 0 [a, b, most] = (0, 0) ∧ a.natAbs ≤ 1000000000000000000 ∧ b ≤ 1000000000000000000 ∧ most ≤ 1000000000000000000) ∨ (∃ c d, nf 0 [a, b, most] = (c, d) ∧ c ≠ 0) := by
  cases h1 : numB a
  · exact .inr ⟨3, 0, by simp [nf, h1], by decide⟩
  · cases h2 : numB b
    · exact .inr ⟨3, 1, by simp [nf, h1, h2], by decide⟩
    · cases h3 : numB most
      · exact .inr ⟨3, 2, by simp [nf, h1, h2, h3], by decide⟩
      · have e1 := numB_true h1
        have e2 := numB_true h2
        have e3 := numB_true h3
        exact .inl ⟨by simp [nf, h1, h2, h3], by omega, by omega, by omega⟩

theorem cont_nears (a b most : Int) (w : World) (hT : Tq w) :
    Calls Tryz.prog 3 #[.int .i64 a, .int .i64 b, .int .i64 most] w fun e w' => e = .returned (.bool true) ∧ Below w.heap.size w w' := by
  rcases nf3 a b most with ⟨h, ha, hb, hm⟩ | ⟨c, d, h, hc⟩
  · by_cases h1 : b < 1
    · exact cn_b a b most w hT h h1
    · by_cases h2 : most < 1
      · exact cn_m a b most w hT h h1 h2
      · by_cases h3 : most ≤ 300
        · exact cn_small a b most w hT h ha h1 hb h2 hm h3
        · exact cn_great a b most w hT h ha h1 hb h2 hm h3
  · exact cn_bad a b most c d w hT h hc

end Go.Proofs.YtfbgblidlabipaaGreatDoor
