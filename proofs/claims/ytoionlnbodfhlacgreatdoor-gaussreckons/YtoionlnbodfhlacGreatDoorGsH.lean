/- Package ring: Div, with its faults. -/
import Derived.Test.YtoionlnbodfhlacGreatDoorGsG
set_option linter.unusedSimpArgs false
set_option linter.unusedVariables false
set_option maxRecDepth 100000
namespace Go.Proofs.YtoionlnbodfhlacGreatDoor
open Go.RowKit

/-- The memory of Div: that of a division, and the fault's cells. -/
structure Dn6 (b : Nat) (k : Kd) (x y : Pp) (w W : World) : Prop where
  m : Dm b k x y Pp.zero w W
  f : Sv (b + 5) 0 0 W
theorem Dn6.below {b : Nat} {k : Kd} {x y : Pp} {w W W' : World} (h : Dn6 b k x y w W) (c : Below W.heap.size W W') : Dn6 b k x y w W' := ⟨h.m.below c, h.f.below c⟩
theorem Dn6.alloc {b : Nat} {k : Kd} {x y : Pp} {w W : World} (h : Dn6 b k x y w W) (o : Obj) : Dn6 b k x y w (W.alloc o) := h.below (Below.alloc (Below.refl _ _) (Nat.le_refl _) _)
/-- How it ends. -/
structure De (b : Nat) (q l : Pp) (f : Int × Int) (w W : World) : Prop where
  q : Sv (b + 1 + 1 + 1) q.a q.b W
  l : Sv (b + 1 + 1 + 1 + 1) l.a l.b W
  f : Sv (b + 1 + 1 + 1 + 1 + 1) f.1 f.2 W
  k : Below b w W
theorem De.drew {b : Nat} {q l : Pp} {f : Int × Int} {w W : World} (h : De b q l f w W) : De b q l f w W.drew := ⟨h.q.drew, h.l.drew, h.f.drew, h.k.drew⟩
theorem De.set {b : Nat} {q l : Pp} {f : Int × Int} {w W : World} (h : De b q l f w W) (q' l' : Pp) (f1 f2 : Int) : De b q' l' (f1, f2) w ((((((W.setCell ⟨b + 1 + 1 + 1, 0, none⟩ (.int .i64 q'.a)).setCell ⟨b + 1 + 1 + 1, 1, none⟩ (.int .i64 q'.b)).setCell ⟨b + 1 + 1 + 1 + 1, 0, none⟩ (.int .i64 l'.a)).setCell ⟨b + 1 + 1 + 1 + 1, 1, none⟩ (.int .i64 l'.b)).setCell ⟨b + 1 + 1 + 1 + 1 + 1, 0, none⟩ (.int .i64 f1)).setCell ⟨b + 1 + 1 + 1 + 1 + 1, 1, none⟩ (.int .i64 f2)) :=
  ⟨((h.q.set _ _).other _ _ (by omega)).other _ _ (by omega), ((h.l.other _ _ (by omega)).set _ _).other _ _ (by omega), ((h.f.other _ _ (by omega)).other _ _ (by omega)).set _ _, (((((h.k.setCell (by show b ≤ b + 3; omega) _).setCell (by show b ≤ b + 3; omega) _).setCell (by show b ≤ b + 4; omega) _).setCell (by show b ≤ b + 4; omega) _).setCell (by show b ≤ b + 5; omega) _).setCell (by show b ≤ b + 5; omega) _⟩
theorem De.set2 {b : Nat} {q l : Pp} {f : Int × Int} {w W : World} (h : De b q l f w W) (q' l' : Pp) : De b q' l' f w ((((W.setCell ⟨b + 1 + 1 + 1, 0, none⟩ (.int .i64 q'.a)).setCell ⟨b + 1 + 1 + 1, 1, none⟩ (.int .i64 q'.b)).setCell ⟨b + 1 + 1 + 1 + 1, 0, none⟩ (.int .i64 l'.a)).setCell ⟨b + 1 + 1 + 1 + 1, 1, none⟩ (.int .i64 l'.b)) :=
  ⟨((h.q.set _ _).other _ _ (by omega)), ((h.l.other _ _ (by omega)).set _ _), ((h.f.other _ _ (by omega)).other _ _ (by omega)), (((h.k.setCell (by show b ≤ b + 3; omega) _).setCell (by show b ≤ b + 3; omega) _).setCell (by show b ≤ b + 4; omega) _).setCell (by show b ≤ b + 4; omega) _⟩
theorem Dn6.de {b : Nat} {k : Kd} {x y : Pp} {w W : World} (h : Dn6 b k x y w W) : De b Pp.zero Pp.zero (0, 0) w W := ⟨h.m.q, h.m.l, h.f, h.m.k⟩

theorem divF_bad (T : Int) (x y : Pp) (d : Int) (h : pfl 0 [x, y] = (3, d)) : divF x y = (3, d) ∧ divQ T x y = Pp.zero ∧ divR T x y = Pp.zero := by
  have h1 : divF x y = (3, d) := by unfold divF; rw [h, if_pos (by simp)]
  exact ⟨h1, by unfold divQ; rw [h1, if_neg (by simp)], by unfold divR; rw [h1, if_neg (by simp)]⟩
theorem divF_zero (T : Int) (x y : Pp) (h : pfl 0 [x, y] = (0, 0)) (h0 : y = Pp.zero) : divF x y = (4, 1) ∧ divQ T x y = Pp.zero ∧ divR T x y = Pp.zero := by
  have h1 : divF x y = (4, 1) := by unfold divF; rw [h, if_neg (by simp), if_pos h0]
  exact ⟨h1, by unfold divQ; rw [h1, if_neg (by simp)], by unfold divR; rw [h1, if_neg (by simp)]⟩
theorem divF_ok (T : Int) (x y : Pp) (h : pfl 0 [x, y] = (0, 0)) (h0 : y ≠ Pp.zero) : divF x y = (0, 0) ∧ divQ T x y = quo T x y ∧ divR T x y = x.sub ((quo T x y).mul T y) := by
  have h1 : divF x y = (0, 0) := by unfold divF; rw [h, if_neg (by simp), if_neg h0]
  exact ⟨h1, by unfold divQ; rw [h1, if_pos rfl], by unfold divR; rw [h1, if_pos rfl]⟩

set_option maxHeartbeats 1000000 in
theorem rDiv_any (T : Int) (k : Kd) (K : KdIs T k) (x y : Pp) (w : World) (hT : TT T) :
    Calls Tryz.prog 56 #[k.v, pv x, pv y] w fun e w' => e = .returned (.tuple #[pv (divQ T x y), pv (divR T x y), fv (divF x y)]) ∧ Below w.heap.size w w' := by
  have HK : Hid (KdIs T k) := K
  have M0 : Dn6 w.heap.size k x y w (((((((w.alloc (.cells k.cells 84)).alloc (.cells #[.int .i64 x.a, .int .i64 x.b] 44)).alloc (.cells #[.int .i64 y.a, .int .i64 y.b] 44)).alloc (.cells #[.int .i64 0, .int .i64 0] 44)).alloc (.cells #[.int .i64 0, .int .i64 0] 44)).alloc (.cells #[.int .i64 0, .int .i64 0] 23)).alloc (.cells #[.int .i64 x.a, .int .i64 x.b, .int .i64 y.a, .int .i64 y.b] 44)) := (show Dn6 w.heap.size k x y w ((((((w.alloc (.cells k.cells 84)).alloc (.cells #[.int .i64 x.a, .int .i64 x.b] 44)).alloc (.cells #[.int .i64 y.a, .int .i64 y.b] 44)).alloc (.cells #[.int .i64 0, .int .i64 0] 44)).alloc (.cells #[.int .i64 0, .int .i64 0] 44)).alloc (.cells #[.int .i64 0, .int .i64 0] 23)) from ⟨(dm_newT w k x y 44 44).alloc _, sv_new _ _ _ (by simp) _ _⟩).alloc _
  have A0 := cl_new ((((((w.alloc (.cells k.cells 84)).alloc (.cells #[.int .i64 x.a, .int .i64 x.b] 44)).alloc (.cells #[.int .i64 y.a, .int .i64 y.b] 44)).alloc (.cells #[.int .i64 0, .int .i64 0] 44)).alloc (.cells #[.int .i64 0, .int .i64 0] 44)).alloc (.cells #[.int .i64 0, .int .i64 0] 23)) [.int .i64 x.a, .int .i64 x.b, .int .i64 y.a, .int .i64 y.b] 44 (w.heap.size + 1 + 1 + 1 + 1 + 1 + 1) (by simp)
  obtain ⟨W0, hW0⟩ : ∃ W0, W0 = ((((((w.alloc (.cells k.cells 84)).alloc (.cells #[.int .i64 x.a, .int .i64 x.b] 44)).alloc (.cells #[.int .i64 y.a, .int .i64 y.b] 44)).alloc (.cells #[.int .i64 0, .int .i64 0] 44)).alloc (.cells #[.int .i64 0, .int .i64 0] 44)).alloc (.cells #[.int .i64 0, .int .i64 0] 23)).alloc (.cells #[.int .i64 x.a, .int .i64 x.b, .int .i64 y.a, .int .i64 y.b] 44) := ⟨_, rfl⟩
  rw [← hW0] at M0
  rw [show (#[.int .i64 x.a, .int .i64 x.b, .int .i64 y.a, .int .i64 y.b] : Array Value) = [.int .i64 x.a, .int .i64 x.b, .int .i64 y.a, .int .i64 y.b].toArray from rfl] at hW0
  rw [← hW0] at A0
  have HP : Hid (Calls Tryz.prog 92 #[.slice (some ⟨w.heap.size + 1 + 1 + 1 + 1 + 1 + 1, 0, none⟩) 2 2] W0 fun e w' => e = .returned (.agg #[.int .i64 (pfl 0 [x, y]).1, .int .i64 (pfl 0 [x, y]).2]) ∧ Below W0.heap.size W0 w') := pairs_two x y _ _ W0 A0.lt (A0.cell 0) (A0.cell 1) (A0.cell 2) (A0.cell 3)
  have HM0 : Hid (Dn6 w.heap.size k x y w W0) := M0
  have HW0 : Hid (W0 = ((((((w.alloc (.cells k.cells 84)).alloc (.cells #[.int .i64 x.a, .int .i64 x.b] 44)).alloc (.cells #[.int .i64 y.a, .int .i64 y.b] 44)).alloc (.cells #[.int .i64 0, .int .i64 0] 44)).alloc (.cells #[.int .i64 0, .int .i64 0] 44)).alloc (.cells #[.int .i64 0, .int .i64 0] 23)).alloc (.cells #[.int .i64 x.a, .int .i64 x.b, .int .i64 y.a, .int .i64 y.b] 44)) := hW0
  have HZ : Hid (∀ w, Calls Tryz.prog 95 #[pv y] w fun e w' => e = .returned (.bool (decide (y = Pp.zero))) ∧ Below w.heap.size w w') := fun w => isZero_any y w
  clear M0 A0 hW0
  rcases pfl_two x y with ⟨ho, ho2, hp⟩ | ⟨d, hp⟩
  · rw [hp] at HP
    by_cases h0 : y = Pp.zero
    · obtain ⟨e1, e2, e3⟩ := divF_zero T x y hp h0
      rw [e1, e2, e3]
      rw [decide_eq_true h0] at HZ
      clear e1 e2 e3 h0 hp ho ho2 hT K
      obtain ⟨u, o, ft, fm, fc, fs⟩ := k
      go_enter Tryz.func56, Tryz.ntmps56
      go_wp2_with fail
      rw [← HW0.out]
      refine HP.out.mono ?_
      rintro e w1 ⟨rfl, k1⟩
      have M1 := (HM0.out.below k1).alloc (.cells #[.int .i64 0, .int .i64 0] 23)
      have HM1 : Hid (Dn6 w.heap.size ⟨u, o, ft, fm, fc, fs⟩ x y w (w1.alloc (.cells #[.int .i64 0, .int .i64 0] 23))) := M1
      clear HM0 k1 HP HW0
      have y0 := M1.m.y.c0
      have y1 := M1.m.y.c1
      clear M1
      go_wp2_with fail
      refine (HZ.out _).mono ?_
      rintro e w2 ⟨rfl, k2⟩
      have M3 := HM1.out.below k2
      clear HM1 k2 y0 y1
      have q0 := M3.m.q.c0
      have q1 := M3.m.q.c1
      have q2 := M3.m.q.f0
      have q3 := M3.m.q.f1
      have q4 := M3.m.q.lt
      have l0 := M3.m.l.c0
      have l1 := M3.m.l.c1
      have l2 := M3.m.l.f0
      have l3 := M3.m.l.f1
      have l4 := M3.m.l.lt
      have f0 := M3.f.c0
      have f1 := M3.f.c1
      have f2 := M3.f.f0
      have f3 := M3.f.f1
      have f4 := M3.f.lt
      go_wp2_with fail
      have E := M3.de.set Pp.zero Pp.zero 4 1
      clear q0 q1 q2 q3 q4 l0 l1 l2 l3 l4 f0 f1 f2 f3 f4 M3
      generalize hWF : World.setCell _ _ _ = WF
      replace E : De w.heap.size Pp.zero Pp.zero (4, 1) w WF := hWF ▸ E
      clear hWF
      have e0 := E.q.c0
      have e1 := E.q.c1
      have e4 := E.q.lt
      have g0 := E.l.c0
      have g1 := E.l.c1
      have g4 := E.l.lt
      have h0 := E.f.c0
      have h1 := E.f.c1
      have h4 := E.f.lt
      exact bodyPost_ret (v := .tuple #[pv Pp.zero, pv Pp.zero, fv (4, 1)]) (by simp [results, Tryz.results56, go_sem, e0, e1, e4, g0, g1, g4, h0, h1, h4]) rfl ⟨rfl, E.k⟩
    · obtain ⟨e1, e2, e3⟩ := divF_ok T x y hp h0
      rw [e1, e2, e3]
      rw [decide_eq_false h0] at HZ
      have HD : Hid (∀ w, Calls Tryz.prog 96 #[k.v, pv x, pv y] w fun e w' => e = .returned (.tuple #[pv (quo T x y), pv (x.sub ((quo T x y).mul T y))]) ∧ Below w.heap.size w w') := fun w => rdiv_any T k K x y w hT (okP_nb hT ho) (okP_nb hT ho2) h0
      obtain ⟨R, hR⟩ : ∃ R, R = x.sub ((quo T x y).mul T y) := ⟨_, rfl⟩
      rw [← hR] at HD ⊢
      obtain ⟨q, hq⟩ : ∃ q, q = quo T x y := ⟨_, rfl⟩
      rw [← hq] at HD ⊢
      clear e1 e2 e3 h0 hp ho ho2 hT K hR hq
      obtain ⟨u, o, ft, fm, fc, fs⟩ := k
      go_enter Tryz.func56, Tryz.ntmps56
      go_wp2_with fail
      rw [← HW0.out]
      refine HP.out.mono ?_
      rintro e w1 ⟨rfl, k1⟩
      have M1 := (HM0.out.below k1).alloc (.cells #[.int .i64 0, .int .i64 0] 23)
      have HM1 : Hid (Dn6 w.heap.size ⟨u, o, ft, fm, fc, fs⟩ x y w (w1.alloc (.cells #[.int .i64 0, .int .i64 0] 23))) := M1
      clear HM0 k1 HP HW0
      have y0 := M1.m.y.c0
      have y1 := M1.m.y.c1
      clear M1
      go_wp2_with fail
      refine (HZ.out _).mono ?_
      rintro e w2 ⟨rfl, k2⟩
      have M2 := HM1.out.below k2
      have HM2 : Hid (Dn6 w.heap.size ⟨u, o, ft, fm, fc, fs⟩ x y w w2) := M2
      clear HM1 k2 y0 y1
      have x0 := M2.m.x.c0
      have x1 := M2.m.x.c1
      have y0 := M2.m.y.c0
      have y1 := M2.m.y.c1
      obtain ⟨r0, r1, r2, r3, r4, r5, r6⟩ := Kt.rd M2.m.r
      clear M2
      go_wp2_with fail
      refine (HD.out _).mono ?_
      rintro e w3 ⟨rfl, k3⟩
      have M3 := HM2.out.below k3
      clear HM2 k3 x0 x1 y0 y1 r0 r1 r2 r3 r4 r5 r6
      have q0 := M3.m.q.c0
      have q1 := M3.m.q.c1
      have q2 := M3.m.q.f0
      have q3 := M3.m.q.f1
      have q4 := M3.m.q.lt
      have l0 := M3.m.l.c0
      have l1 := M3.m.l.c1
      have l2 := M3.m.l.f0
      have l3 := M3.m.l.f1
      have l4 := M3.m.l.lt
      have f0 := M3.f.c0
      have f1 := M3.f.c1
      have f2 := M3.f.f0
      have f3 := M3.f.f1
      have f4 := M3.f.lt
      go_wp2_with fail
      have D4 := M3.de.set2 q R
      clear q0 q1 q2 q3 q4 l0 l1 l2 l3 l4 f0 f1 f2 f3 f4 M3
      obtain ⟨W4, hW4⟩ : ∃ W4, W4 = ((((w3.setCell ⟨w.heap.size + 1 + 1 + 1, 0, none⟩ (.int .i64 q.a)).setCell ⟨w.heap.size + 1 + 1 + 1, 1, none⟩ (.int .i64 q.b)).setCell ⟨w.heap.size + 1 + 1 + 1 + 1, 0, none⟩ (.int .i64 R.a)).setCell ⟨w.heap.size + 1 + 1 + 1 + 1, 1, none⟩ (.int .i64 R.b)) := ⟨_, rfl⟩
      rw [← hW4] at D4 ⊢
      clear hW4
      have q0 := D4.q.c0
      have q1 := D4.q.c1
      have q2 := D4.q.f0
      have q3 := D4.q.f1
      have q4 := D4.q.lt
      have l0 := D4.l.c0
      have l1 := D4.l.c1
      have l2 := D4.l.f0
      have l3 := D4.l.f1
      have l4 := D4.l.lt
      have f0 := D4.f.c0
      have f1 := D4.f.c1
      have f2 := D4.f.f0
      have f3 := D4.f.f1
      have f4 := D4.f.lt
      refine wp_region_G (fun W => Rp (w.heap.size + 1 + 1 + 1) q W ∧ Rp (w.heap.size + 1 + 1 + 1 + 1) R W) 5 (by kernel_rfl) ⟨⟨q0, q1⟩, l0, l1⟩ (fun hHeld => ?_)
      refine wpAnyG_take (i := 0) (v := ?v0x1) rfl (by kernel_rfl) (fun _ _ _ h => h) (Or.inl ⟨by rfl, ?y0x1⟩) hHeld ?r0x1
      case y0x1 => (intro wS hSw; obtain ⟨⟨s1, s2⟩, s3, s4⟩ := hSw; go_simp; try with_reducible rfl)
      try simp only [Act.put, List.setIfInBounds_toArray, List.set_cons_zero, List.set_cons_succ]
      refine wpAnyG_take (i := 1) (v := ?v1x2) rfl (by kernel_rfl) (fun _ _ _ h => h) (Or.inl ⟨by rfl, ?y1x2⟩) hHeld ?r1x2
      case y1x2 => (intro wS hSw; obtain ⟨⟨s1, s2⟩, s3, s4⟩ := hSw; go_simp; try with_reducible rfl)
      try simp only [Act.put, List.setIfInBounds_toArray, List.set_cons_zero, List.set_cons_succ]
      refine wpAnyG_take (i := 2) (v := ?v2x3) rfl (by kernel_rfl) (fun _ _ _ h => h) (Or.inl ⟨by rfl, ?y2x3⟩) hHeld ?r2x3
      case y2x3 => (intro wS hSw; obtain ⟨⟨s1, s2⟩, s3, s4⟩ := hSw; go_simp; try with_reducible rfl)
      try simp only [Act.put, List.setIfInBounds_toArray, List.set_cons_zero, List.set_cons_succ]
      refine wpAnyG_one (i := 3) rfl (by kernel_rfl) (fun K hK => ?_)
      go_simp
      have Q5 := (D4.q.set q.a q.b).drew
      have L5 := (D4.l.other (.int .i64 q.a) (.int .i64 q.b) (show w.heap.size + 1 + 1 + 1 ≠ w.heap.size + 1 + 1 + 1 + 1 by omega)).drew
      refine hK.out _ _ ⟨⟨Q5.c0, Q5.c1⟩, L5.c0, L5.c1⟩ ?_
      clear hK K
      try simp only [Act.put, List.setIfInBounds_toArray, List.set_cons_zero, List.set_cons_succ]
      refine wpAnyG_one (i := 4) rfl (by kernel_rfl) (fun K hK => ?_)
      go_simp
      have D6 := (D4.set2 q R).drew
      refine hK.out _ _ ⟨⟨D6.q.c0, D6.q.c1⟩, D6.l.c0, D6.l.c1⟩ ?_
      clear hK K
      try simp only [Act.put, List.setIfInBounds_toArray, List.set_cons_zero, List.set_cons_succ]
      refine wpAnyG_last (i := 5) rfl (by kernel_rfl) (by kernel_rfl) (fun K hK => ?_)
      go_simp
      refine hK.out _ _ ?_
      clear hK K
      try simp only [Act.put, List.setIfInBounds_toArray, List.set_cons_zero, List.set_cons_succ]
      refine wpAnyG_done (by kernel_rfl) ?_ _
      have E := (D4.set q R 0 0).drew
      clear hHeld Q5 L5 D6 D4 q0 q1 q2 q3 q4 l0 l1 l2 l3 l4 f0 f1 f2 f3 f4
      go_wp2_with fail
      generalize hWF : World.drew _ = WF
      replace E : De w.heap.size q R (0, 0) w WF := hWF ▸ E
      clear hWF
      have e0 := E.q.c0
      have e1 := E.q.c1
      have e4 := E.q.lt
      have g0 := E.l.c0
      have g1 := E.l.c1
      have g4 := E.l.lt
      have h0 := E.f.c0
      have h1 := E.f.c1
      have h4 := E.f.lt
      exact bodyPost_ret (v := .tuple #[pv q, pv R, fv (0, 0)]) (by simp [results, Tryz.results56, go_sem, e0, e1, e4, g0, g1, g4, h0, h1, h4]) rfl ⟨rfl, E.k⟩
  · obtain ⟨e1, e2, e3⟩ := divF_bad T x y d hp
    rw [e1, e2, e3]
    rw [hp] at HP
    clear e1 e2 e3 hp hT K
    obtain ⟨u, o, ft, fm, fc, fs⟩ := k
    go_enter Tryz.func56, Tryz.ntmps56
    go_wp2_with fail
    rw [← HW0.out]
    refine HP.out.mono ?_
    rintro e w1 ⟨rfl, k1⟩
    have M3 := (HM0.out.below k1).alloc (.cells #[.int .i64 3, .int .i64 d] 23)
    have z1 : w.heap.size + 5 < w1.heap.size := (HM0.out.below k1).f.lt
    have P1 := sv_new w1 23 w1.heap.size rfl 3 d
    clear HM0 k1 HP HW0
    have q0 := M3.m.q.c0
    have q1 := M3.m.q.c1
    have q2 := M3.m.q.f0
    have q3 := M3.m.q.f1
    have q4 := M3.m.q.lt
    have l0 := M3.m.l.c0
    have l1 := M3.m.l.c1
    have l2 := M3.m.l.f0
    have l3 := M3.m.l.f1
    have l4 := M3.m.l.lt
    have f0 := M3.f.c0
    have f1 := M3.f.c1
    have f2 := M3.f.f0
    have f3 := M3.f.f1
    have f4 := M3.f.lt
    go_wp2_with fail
    refine wp_region_G (fun W => W.cell? ⟨w1.heap.size, 0, none⟩ = some (.int .i64 3) ∧ W.cell? ⟨w1.heap.size, 1, none⟩ = some (.int .i64 d)) 5 (by kernel_rfl) ⟨P1.c0, P1.c1⟩ (fun hHeld => ?_)
    refine wpAnyG_take (i := 0) (v := ?v0x4) rfl (by kernel_rfl) (fun _ _ _ h => h) (Or.inl ⟨by rfl, ?y0x4⟩) hHeld ?r0x4
    case y0x4 => (intro wS hSw; obtain ⟨s1, s2⟩ := hSw; go_simp; try with_reducible rfl)
    try simp only [Act.put, List.setIfInBounds_toArray, List.set_cons_zero, List.set_cons_succ]
    refine wpAnyG_take (i := 1) (v := ?v1x5) rfl (by kernel_rfl) (fun _ _ _ h => h) (Or.inl ⟨by rfl, ?y1x5⟩) hHeld ?r1x5
    case y1x5 => (intro wS hSw; obtain ⟨s1, s2⟩ := hSw; go_simp; try with_reducible rfl)
    try simp only [Act.put, List.setIfInBounds_toArray, List.set_cons_zero, List.set_cons_succ]
    refine wpAnyG_take (i := 2) (v := ?v2x6) rfl (by kernel_rfl) (fun _ _ _ h => h) (Or.inl ⟨by rfl, ?y2x6⟩) hHeld ?r2x6
    case y2x6 => (intro wS hSw; obtain ⟨s1, s2⟩ := hSw; go_simp; try with_reducible rfl)
    try simp only [Act.put, List.setIfInBounds_toArray, List.set_cons_zero, List.set_cons_succ]
    refine wpAnyG_one (i := 3) rfl (by kernel_rfl) (fun K hK => ?_)
    go_simp
    have P2 := P1.other (.int .i64 0) (.int .i64 0) (show w.heap.size + 1 + 1 + 1 ≠ w1.heap.size by omega)
    refine hK.out _ _ ⟨P2.drew.c0, P2.drew.c1⟩ ?_
    clear hK K
    try simp only [Act.put, List.setIfInBounds_toArray, List.set_cons_zero, List.set_cons_succ]
    refine wpAnyG_one (i := 4) rfl (by kernel_rfl) (fun K hK => ?_)
    go_simp
    have P3 := (P2.other (.int .i64 0) (.int .i64 0) (show w.heap.size + 1 + 1 + 1 + 1 ≠ w1.heap.size by omega)).drew
    refine hK.out _ _ ⟨P3.c0, P3.c1⟩ ?_
    clear hK K
    try simp only [Act.put, List.setIfInBounds_toArray, List.set_cons_zero, List.set_cons_succ]
    refine wpAnyG_last (i := 5) rfl (by kernel_rfl) (by kernel_rfl) (fun K hK => ?_)
    go_simp
    refine hK.out _ _ ?_
    clear hK K
    try simp only [Act.put, List.setIfInBounds_toArray, List.set_cons_zero, List.set_cons_succ]
    refine wpAnyG_done (by kernel_rfl) ?_ _
    have E := (M3.de.set Pp.zero Pp.zero 3 d).drew
    clear hHeld P1 P2 P3 M3 q0 q1 q2 q3 q4 l0 l1 l2 l3 l4 f0 f1 f2 f3 f4
    go_wp2_with fail
    generalize hWF : World.drew _ = WF
    replace E : De w.heap.size Pp.zero Pp.zero (3, d) w WF := hWF ▸ E
    clear hWF
    have e0 := E.q.c0
    have e1 := E.q.c1
    have e4 := E.q.lt
    have g0 := E.l.c0
    have g1 := E.l.c1
    have g4 := E.l.lt
    have h0 := E.f.c0
    have h1 := E.f.c1
    have h4 := E.f.lt
    exact bodyPost_ret (v := .tuple #[pv Pp.zero, pv Pp.zero, fv (3, d)]) (by simp [results, Tryz.results56, go_sem, e0, e1, e4, g0, g1, g4, h0, h1, h4]) rfl ⟨rfl, E.k⟩

end Go.Proofs.YtoionlnbodfhlacGreatDoor
