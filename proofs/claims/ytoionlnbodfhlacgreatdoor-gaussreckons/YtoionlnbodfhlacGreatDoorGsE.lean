/- Package ring: gcd. -/
import Derived.Test.YtoionlnbodfhlacGreatDoorGsD
import Derived.Test.YtoionlnbodfhlacGreatDoorRegionG
set_option linter.unusedSimpArgs false
set_option linter.unusedVariables false
set_option maxRecDepth 100000
namespace Go.Proofs.YtoionlnbodfhlacGreatDoor
open Go.RowKit

/-- The state of Euclid's loop. -/
structure Er (b : Nat) (T : Int) (k : Kd) (x y X Y : Pp) (w W : World) : Prop where
  g : ∀ g, Gd T X Y g → Gd T x y g
  r : Kt b k W
  x : Sv (b + 1) X.a X.b W
  y : Sv (b + 2) Y.a Y.b W
  o : Sv (b + 3) 0 0 W
  k : Below b w W
  nx : Nb T X
  ny : Nb T Y
theorem Er.below {b : Nat} {T : Int} {k : Kd} {x y X Y : Pp} {w W W' : World} (h : Er b T k x y X Y w W) (c : Below W.heap.size W W') : Er b T k x y X Y w W' :=
  ⟨h.g, h.r.below c, h.x.below c, h.y.below c, h.o.below c, h.k.trans (c.mono (by have := h.o.lt; omega)), h.nx, h.ny⟩
theorem Er.alloc {b : Nat} {T : Int} {k : Kd} {x y X Y : Pp} {w W : World} (h : Er b T k x y X Y w W) (o : Obj) : Er b T k x y X Y w (W.alloc o) := h.below (Below.alloc (Below.refl _ _) (Nat.le_refl _) _)
theorem Er.drew {b : Nat} {T : Int} {k : Kd} {x y X Y : Pp} {w W : World} (h : Er b T k x y X Y w W) : Er b T k x y X Y w W.drew := h.below ((Below.refl _ _).drew)
theorem Er.step {b : Nat} {T : Int} (hT : TT T) {k : Kd} {x y X Y R : Pp} {w W : World} (h : Er b T k x y X Y w W) (h0 : Y ≠ Pp.zero) (hR : R = X.sub ((quo T X Y).mul T Y)) :
    Er b T k x y Y R w ((((W.setCell ⟨b + 1, 0, none⟩ (.int .i64 Y.a)).setCell ⟨b + 1, 1, none⟩ (.int .i64 Y.b)).setCell ⟨b + 2, 0, none⟩ (.int .i64 R.a)).setCell ⟨b + 2, 1, none⟩ (.int .i64 R.b)) ∧ (R.norm T).toNat < (Y.norm T).toNat := by
  obtain ⟨n1, n2⟩ := step_less hT (x := X) h.ny h0
  rw [← hR] at n1 n2
  have n3 := norm_nonneg T hT R
  refine ⟨⟨fun g hg => h.g g (Gd.step (q := quo T X Y) (by rw [← hR]; exact hg.symm)), ?_, ?_, ?_, ?_, ?_, h.ny, n1⟩, by omega⟩
  · exact ((((h.r.other (by show b ≠ b + 1; omega) _).other (by show b ≠ b + 1; omega) _).other (by show b ≠ b + 2; omega) _).other (by show b ≠ b + 2; omega) _)
  · exact (h.x.set Y.a Y.b).other _ _ (by omega)
  · exact (h.y.other _ _ (by omega)).set R.a R.b
  · exact (h.o.other _ _ (by omega)).other _ _ (by omega)
  · exact (((h.k.setCell (by show b ≤ b + 1; omega) _).setCell (by show b ≤ b + 1; omega) _).setCell (by show b ≤ b + 2; omega) _).setCell (by show b ≤ b + 2; omega) _
theorem er_new (w : World) (T : Int) (k : Kd) (x y : Pp) (hx : Nb T x) (hy : Nb T y) : Er w.heap.size T k x y x y w ((((w.alloc (.cells k.cells 84)).alloc (.cells #[.int .i64 x.a, .int .i64 x.b] 44)).alloc (.cells #[.int .i64 y.a, .int .i64 y.b] 44)).alloc (.cells #[.int .i64 0, .int .i64 0] 44)) :=
  ⟨fun g h => h, (((Cl.new k.list 84 w).alloc _).alloc _).alloc _, sv_alloc (sv_alloc (sv_new _ _ _ (by simp) _ _) _) _, sv_alloc (sv_new _ _ _ (by simp) _ _) _, sv_new _ _ _ (by simp) _ _, below4 _ _ _ _ _, hx, hy⟩

set_option maxHeartbeats 1000000 in
theorem rgcd_any (T : Int) (k : Kd) (K : KdIs T k) (x y : Pp) (w : World) (hT : TT T) (hx : Nb T x) (hy : Nb T y) :
    Calls Tryz.prog 97 #[k.v, pv x, pv y] w (GreatPost T x y w) := by
  have HT : Hid (TT T) := hT
  have HK : Hid (KdIs T k) := K
  have M0 := er_new w T k x y hx hy
  clear hx hy hT K
  obtain ⟨u, o, ft, fm, fc, fs⟩ := k
  go_enter Tryz.func97, Tryz.ntmps97
  go_wp2
  go_loopg [9] ((y.norm T).toNat) (fun g _ wx => ∃ X Y : Pp, Hid (Er w.heap.size T ⟨u, o, ft, fm, fc, fs⟩ x y X Y w wx ∧ g = (Y.norm T).toNat))
  case atStart => exact ⟨x, y, M0, rfl⟩
  case round =>
    clear M0
    obtain ⟨X, Y, HR⟩ := hrel
    have M := HR.out.1
    have HM : Hid (Er w.heap.size T ⟨u, o, ft, fm, fc, fs⟩ x y X Y w wr) := M
    have HG : Hid (gk = (Y.norm T).toNat) := HR.out.2
    have HZ : Hid (∀ w, Calls Tryz.prog 95 #[pv Y] w fun e w' => e = .returned (.bool (decide (Y = Pp.zero))) ∧ Below w.heap.size w w') := fun w => isZero_any Y w
    have y0 := M.y.c0
    have y1 := M.y.c1
    clear M HR
    by_cases hY : Y = Pp.zero
    · rw [decide_eq_true hY] at HZ
      have HY0 : Hid (Y = Pp.zero) := hY
      clear hY
      go_wp2_with fail
      refine (HZ.out _).mono ?_
      rintro e w1 ⟨rfl, k1⟩
      have M1 := HM.out.below k1
      have HM1 : Hid (Er w.heap.size T ⟨u, o, ft, fm, fc, fs⟩ x y X Y w w1) := M1
      clear y0 y1 k1 HM
      have x0 := M1.x.c0
      have x1 := M1.x.c1
      obtain ⟨r0, r1, r2, r3, r4, r5, r6⟩ := Kt.rd M1.r
      clear M1
      go_wp2_with fail
      refine (rchief_any T ⟨u, o, ft, fm, fc, fs⟩ HK.out X _ HT.out HM1.out.nx).mono ?_
      rintro e w2 ⟨g, rfl, d1, d2, hc, k2⟩
      have M2 := HM1.out.below k2
      have HK2 : Hid (Below w.heap.size w w2) := M2.k
      have HGd : Hid (Gd T x y g) := M2.g g (by rw [HY0.out]; exact (Gd.zero T X).to d1 d2)
      have HCh : Hid (IsCh T g ∨ g = Pp.zero) := hc.imp id (fun h => h.2)
      clear x0 x1 k2 HM1 r0 r1 r2 r3 r4 r5 r6 d1 d2 hc
      have o0 := M2.o.c0
      have o1 := M2.o.c1
      have o2 := M2.o.f0
      have o3 := M2.o.f1
      have o4 := M2.o.lt
      clear M2
      go_wp2
      refine bodyPost_ret (v := pv g) (by simp [results, Tryz.results97, go_sem, o0, o1, o4]) rfl ⟨g, rfl, HGd.out, HCh.out, ?_⟩
      exact (HK2.out.setCell (by simp <;> omega) _).setCell (by simp <;> omega) _
    · rw [decide_eq_false hY] at HZ
      have HY0 : Hid (Y ≠ Pp.zero) := hY
      clear hY
      go_wp2_with fail
      refine (HZ.out _).mono ?_
      rintro e w1 ⟨rfl, k1⟩
      have M1 := HM.out.below k1
      have HM1 : Hid (Er w.heap.size T ⟨u, o, ft, fm, fc, fs⟩ x y X Y w w1) := M1
      clear y0 y1 k1 HM
      have x0 := M1.x.c0
      have x1 := M1.x.c1
      have y0 := M1.y.c0
      have y1 := M1.y.c1
      obtain ⟨r0, r1, r2, r3, r4, r5, r6⟩ := Kt.rd M1.r
      clear M1
      have HD : Hid (∀ w, Calls Tryz.prog 96 #[Kd.v ⟨u, o, ft, fm, fc, fs⟩, pv X, pv Y] w fun e w' => e = .returned (.tuple #[pv (quo T X Y), pv (X.sub ((quo T X Y).mul T Y))]) ∧ Below w.heap.size w w') := fun w => rdiv_any T ⟨u, o, ft, fm, fc, fs⟩ HK.out X Y w HT.out HM1.out.nx HM1.out.ny HY0.out
      obtain ⟨R, hR⟩ : ∃ R, R = X.sub ((quo T X Y).mul T Y) := ⟨_, rfl⟩
      obtain ⟨q, hq⟩ : ∃ q, q = quo T X Y := ⟨_, rfl⟩
      rw [← hR, ← hq] at HD
      have HRR : Hid (R = X.sub ((quo T X Y).mul T Y)) := hR
      clear hR hq
      go_wp2_with fail
      refine (HD.out _).mono ?_
      rintro e w2 ⟨rfl, k2⟩
      have M3 := ((HM1.out.below k2).alloc (.cells #[.int .i64 q.a, .int .i64 q.b] 44)).alloc (.cells #[.int .i64 R.a, .int .i64 R.b] 44)
      have L3 := sv_new (w2.alloc (.cells #[.int .i64 q.a, .int .i64 q.b] 44)) 44 (w2.heap.size + 1) (by simp) R.a R.b
      have z2 : w.heap.size + 3 < w2.heap.size := by have := (HM1.out.below k2).o.lt; exact this
      clear k2 x0 x1 y0 y1 r0 r1 r2 r3 r4 r5 r6 HD HM1
      go_wp2_with fail
      obtain ⟨W3, hW3⟩ : ∃ W3, W3 = ((w2.alloc (.cells #[.int .i64 q.a, .int .i64 q.b] 44)).alloc (.cells #[.int .i64 R.a, .int .i64 R.b] 44)) := ⟨_, rfl⟩
      rw [← hW3] at M3 L3 ⊢
      clear hW3
      have HM3 : Hid (Er w.heap.size T ⟨u, o, ft, fm, fc, fs⟩ x y X Y w W3) := M3
      have x0 := M3.x.c0
      have x1 := M3.x.c1
      have x2 := M3.x.f0
      have x3 := M3.x.f1
      have x4 := M3.x.lt
      have y0 := M3.y.c0
      have y1 := M3.y.c1
      have y2 := M3.y.f0
      have y3 := M3.y.f1
      have y4 := M3.y.lt
      refine wp_region_G (fun W => Rp (w.heap.size + 2) Y W ∧ Rp (w2.heap.size + 1) R W) 3 (by kernel_rfl) ⟨⟨y0, y1⟩, L3.c0, L3.c1⟩ (fun hHeld => ?_)
      refine wpAnyG_take (i := 0) (v := ?v0) rfl (by kernel_rfl) (fun _ _ _ h => h) (Or.inl ⟨by rfl, ?y0⟩) hHeld ?r0
      case y0 => (intro wS hSw; obtain ⟨⟨s1, s2⟩, s3, s4⟩ := hSw; go_simp; try with_reducible rfl)
      try simp only [Act.put, List.setIfInBounds_toArray, List.set_cons_zero, List.set_cons_succ]
      refine wpAnyG_take (i := 1) (v := ?v1) rfl (by kernel_rfl) (fun _ _ _ h => h) (Or.inl ⟨by rfl, ?y1⟩) hHeld ?r1
      case y1 => (intro wS hSw; obtain ⟨⟨s1, s2⟩, s3, s4⟩ := hSw; go_simp; try with_reducible rfl)
      try simp only [Act.put, List.setIfInBounds_toArray, List.set_cons_zero, List.set_cons_succ]
      refine wpAnyG_one (i := 2) rfl (by kernel_rfl) (fun K hK => ?_)
      go_simp
      have Y5 := (M3.y.other (.int .i64 Y.a) (.int .i64 Y.b) (show w.heap.size + 1 ≠ w.heap.size + 2 by omega)).drew
      have L5 := (L3.other (.int .i64 Y.a) (.int .i64 Y.b) (show w.heap.size + 1 ≠ w2.heap.size + 1 by omega)).drew
      refine hK.out _ _ ⟨⟨Y5.c0, Y5.c1⟩, L5.c0, L5.c1⟩ ?_
      clear hK K
      try simp only [Act.put, List.setIfInBounds_toArray, List.set_cons_zero, List.set_cons_succ]
      refine wpAnyG_last (i := 3) rfl (by kernel_rfl) (by kernel_rfl) (fun K hK => ?_)
      go_simp
      refine hK.out _ _ ?_
      clear hK K
      try simp only [Act.put, List.setIfInBounds_toArray, List.set_cons_zero, List.set_cons_succ]
      refine wpAnyG_done (by kernel_rfl) ?_ _
      clear hHeld Y5 L5 L3 M3 x0 x1 x2 x3 x4 y0 y1 y2 y3 y4
      go_wp2
      go_roundg ((R.norm T).toNat)
      case rel => exact ⟨Y, R, (HM3.out.step HT.out HY0.out HRR.out).1.drew, rfl⟩
      case measure => rw [HG.out]; exact (HM3.out.step HT.out HY0.out HRR.out).2

end Go.Proofs.YtoionlnbodfhlacGreatDoor
