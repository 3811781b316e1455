import Derived.Test.YtogdggdaaiajnadGreatDoorGsC
import Derived.Deep.LoopGhost
import Derived.Test.YtogdggdaaiajnadGreatDoorRegionG
import Derived.Test.YtogdggdaaiajnadGreatDoorReckonsBase
section
/- Package ring: chief, gcd. -/
set_option linter.unusedSimpArgs false
set_option linter.unusedVariables false
set_option maxRecDepth 100000
namespace Go.Proofs.YtogdggdaaiajnadGreatDoor
open Go.RowKit

/-- The memory of chief's walk. -/
structure Cm (b : Nat) (k : Kd) (x : Pp) (w W : World) : Prop where
  r : Kt b k W
  x : Sv (b + 1) x.a x.b W
  o : Sv (b + 2) 0 0 W
  k : Below b w W
theorem Cm.below {b : Nat} {k : Kd} {x : Pp} {w W W' : World} (h : Cm b k x w W) (c : Below W.heap.size W W') : Cm b k x w W' :=
  ⟨h.r.below c, h.x.below c, h.o.below c, h.k.trans (c.mono (by have := h.o.lt; omega))⟩
theorem Cm.drew {b : Nat} {k : Kd} {x : Pp} {w W : World} (h : Cm b k x w W) : Cm b k x w W.drew := h.below ((Below.refl _ _).drew)
theorem Cm.setx {b : Nat} {k : Kd} {x : Pp} {w W : World} (h : Cm b k x w W) (y : Pp) : Cm b k y w ((W.setCell ⟨b + 1, 0, none⟩ (.int .i64 y.a)).setCell ⟨b + 1, 1, none⟩ (.int .i64 y.b)) :=
  ⟨(h.r.other (by show b ≠ b + 1; omega) _).other (by show b ≠ b + 1; omega) _, h.x.set _ _, h.o.other _ _ (by omega), (h.k.setCell (by show b ≤ b + 1; omega) _).setCell (by show b ≤ b + 1; omega) _⟩
theorem cm_new (w : World) (k : Kd) (x : Pp) : Cm w.heap.size k x w (((w.alloc (.cells k.cells 55)).alloc (.cells #[.int .i64 x.a, .int .i64 x.b] 23)).alloc (.cells #[.int .i64 0, .int .i64 0] 23)) :=
  ⟨((Cl.new k.list 55 w).alloc _).alloc _, sv_alloc (sv_new _ _ _ (by simp) _ _) _, sv_new _ _ _ (by simp) _ _, below3 _ _ _ _⟩

/-- The state of chief's walk. -/
def ChS (T : Int) (b : Nat) (k : Kd) (x : Pp) (w : World) (g : Nat) (W : World) (X : Pp) : Prop :=
  ∃ i, X = rotN T x i ∧ i < unitsN T ∧ g = unitsN T - i ∧ (∀ j, j < i → ¬ IsCh T (rotN T x j)) ∧ Cm b k X w W

theorem ChS.next {T : Int} (hT : TT T) {b : Nat} {k : Kd} {x : Pp} {w : World} {g : Nat} {W W' : World} {X Y : Pp} (h : ChS T b k x w g W X) (h0 : X ≠ Pp.zero) (hc : ¬ IsCh T X) (hY : Y = X.mul T (unitOf T)) (m : Cm b k Y w W') :
    ChS T b k x w (g - 1) W' Y ∧ g - 1 < g := by
  obtain ⟨i, hX, hi, hg, hn, _⟩ := h
  have hn' : ∀ j, j < i + 1 → ¬ IsCh T (rotN T x j) := fun j hj => by
    by_cases e : j = i
    · rw [e, ← hX]; exact hc
    · exact hn j (by omega)
  have hlt : i + 1 < unitsN T := by
    rcases Nat.lt_or_ge (i + 1) (unitsN T) with h | h
    · exact h
    · exfalso
      have hx := rot_chief hT x (fun j hj => hn' j (by omega))
      apply h0
      apply norm_zero T hT
      rw [hX, rot_norm hT, hx]
      simp [Pp.norm, Pp.zero]
  exact ⟨⟨i + 1, by rw [hY, hX]; rfl, hlt, by omega, hn', m⟩, by omega⟩
theorem ChS.post {T : Int} (hT : TT T) {b : Nat} {k : Kd} {x : Pp} {w : World} {g : Nat} {W : World} {X : Pp} (h : ChS T b k x w g W X) : Dv T x X ∧ Dv T X x := by
  obtain ⟨i, hX, _⟩ := h
  rw [hX]; exact rot_dv hT x i
theorem ChS.zero {T : Int} (hT : TT T) {b : Nat} {k : Kd} {x : Pp} {w : World} {g : Nat} {W : World} (h : ChS T b k x w g W Pp.zero) : x = Pp.zero := by
  obtain ⟨i, hX, _⟩ := h
  apply norm_zero T hT
  rw [← rot_norm hT x i, ← hX]
  simp [Pp.norm, Pp.zero]
theorem ChS.norm {T : Int} (hT : TT T) {b : Nat} {k : Kd} {x : Pp} {w : World} {g : Nat} {W : World} {X : Pp} (h : ChS T b k x w g W X) (hx : Nb T x) : Nb T X := by
  obtain ⟨i, hX, _⟩ := h
  rw [hX]; unfold Nb; rw [rot_norm hT]; exact hx

set_option maxHeartbeats 1000000 in
theorem rchief_any (T : Int) (k : Kd) (K : KdIs T k) (x : Pp) (w : World) (hT : TT T) (hx : Nb T x) :
    Calls Tryz.prog 84 #[k.v, pv x] w (ChiefPost T x w) := by
  have HX : Hid (Nb T x) := hx
  have HT : Hid (TT T) := hT
  have et := K.et
  have ec := K.ec
  have HK : Hid (KdIs T k) := K
  have M0 := cm_new w k x
  clear hx hT K
  obtain ⟨u, o, ft, fm, fc, fs⟩ := k
  go_enter Tryz.func84, Tryz.ntmps84
  go_wp2
  go_loopg [14] (unitsN T) (fun g _ wx => ∃ X : Pp, Hid (ChS T w.heap.size ⟨u, o, ft, fm, fc, fs⟩ x w g wx X))
  case atStart => exact ⟨x, 0, rfl, by unfold unitsN; split <;> decide, rfl, fun j h => absurd h (Nat.not_lt_zero _), M0⟩
  case round =>
    clear M0
    obtain ⟨X, HR⟩ := hrel
    have M : Cm w.heap.size ⟨u, o, ft, fm, fc, fs⟩ X w wr := HR.out.elim (fun i h => h.2.2.2.2)
    have HM : Hid (Cm w.heap.size ⟨u, o, ft, fm, fc, fs⟩ X w wr) := M
    have HZ : Hid (∀ w, Calls Tryz.prog 57 #[pv X] w fun e w' => e = .returned (.bool (decide (X = Pp.zero))) ∧ Below w.heap.size w w') := fun w => isZero_any X w
    have x0 := M.x.c0
    have x1 := M.x.c1
    clear M
    by_cases hX : X = Pp.zero
    · rw [decide_eq_true hX] at HZ
      have HX0 : Hid (X = Pp.zero) := hX
      clear hX
      go_wp2_with fail
      refine (HZ.out _).mono ?_
      rintro e w1 ⟨rfl, k1⟩
      have M1 := HM.out.below k1
      have HK1 : Hid (Below w.heap.size w w1) := M1.k
      clear x0 x1 k1 HM
      have x0 := M1.x.c0
      have x1 := M1.x.c1
      have o0 := M1.o.c0
      have o1 := M1.o.c1
      have o2 := M1.o.f0
      have o3 := M1.o.f1
      have o4 := M1.o.lt
      clear M1
      go_wp2
      refine bodyPost_ret (v := pv X) (by simp [results, Tryz.results84, go_sem, o0, o1, o4]) rfl ⟨X, rfl, (HR.out.post HT.out).1, (HR.out.post HT.out).2, .inr ⟨?_, HX0.out⟩, ?_⟩
      · have h := HR.out
        rw [HX0.out] at h
        exact h.zero HT.out
      · exact (HK1.out.setCell (by simp <;> omega) _).setCell (by simp <;> omega) _
    · rw [decide_eq_false hX] at HZ
      have HX0 : Hid (X ≠ Pp.zero) := hX
      clear hX
      have HC : Hid (∀ w, Calls Tryz.prog fc #[pv X] w fun e w' => e = .returned (.bool (decide (IsCh T X))) ∧ Below w.heap.size w w') := fun w => HK.out.chief X w
      by_cases hc : IsCh T X
      · rw [decide_eq_true hc] at HC
        have HCh : Hid (IsCh T X) := hc
        clear hc
        go_wp2_with fail
        refine (HZ.out _).mono ?_
        rintro e w1 ⟨rfl, k1⟩
        have M1 := HM.out.below k1
        have HM1 : Hid (Cm w.heap.size ⟨u, o, ft, fm, fc, fs⟩ X w w1) := M1
        clear x0 x1 k1 HM
        have x0 := M1.x.c0
        have x1 := M1.x.c1
        have r5 := (Kt.rd M1.r).2.2.2.2.2.1
        clear M1
        go_wp2_with fail
        refine (HC.out _).mono ?_
        rintro e w2 ⟨rfl, k2⟩
        have M1 := HM1.out.below k2
        have HK1 : Hid (Below w.heap.size w w2) := M1.k
        clear x0 x1 k2 HM1 r5
        have x0 := M1.x.c0
        have x1 := M1.x.c1
        have o0 := M1.o.c0
        have o1 := M1.o.c1
        have o2 := M1.o.f0
        have o3 := M1.o.f1
        have o4 := M1.o.lt
        clear M1
        go_wp2
        refine bodyPost_ret (v := pv X) (by simp [results, Tryz.results84, go_sem, o0, o1, o4]) rfl ⟨X, rfl, (HR.out.post HT.out).1, (HR.out.post HT.out).2, .inl HCh.out, ?_⟩
        exact (HK1.out.setCell (by simp <;> omega) _).setCell (by simp <;> omega) _
      · rw [decide_eq_false hc] at HC
        have HCh : Hid (¬ IsCh T X) := hc
        clear hc
        obtain ⟨Y, hY⟩ : ∃ Y, Y = X.mul T u := ⟨_, rfl⟩
        have hu : u = unitOf T := HK.out.unit
        have HY : Hid (Y = X.mul T (unitOf T)) := by rw [← hu]; exact hY
        have HTm : Hid (∀ w, Calls Tryz.prog ft #[pv X, pv u] w fun e w' => e = .returned (pv Y) ∧ Below w.heap.size w w') := fun w => by
          rw [hY]
          exact HK.out.times X u w (Mb.of ((HR.out.norm HT.out HX.out).bd HT.out) (by rw [hu]; exact unit_bd HT.out) (by omega))
        clear hY hu
        go_wp2_with fail
        refine (HZ.out _).mono ?_
        rintro e w1 ⟨rfl, k1⟩
        have M1 := HM.out.below k1
        have HM1 : Hid (Cm w.heap.size ⟨u, o, ft, fm, fc, fs⟩ X w w1) := M1
        clear x0 x1 k1 HM
        have x0 := M1.x.c0
        have x1 := M1.x.c1
        have r5 := (Kt.rd M1.r).2.2.2.2.2.1
        clear M1
        go_wp2_with fail
        refine (HC.out _).mono ?_
        rintro e w2 ⟨rfl, k2⟩
        have M2 := HM1.out.below k2
        have HM2 : Hid (Cm w.heap.size ⟨u, o, ft, fm, fc, fs⟩ X w w2) := M2
        clear x0 x1 k2 HM1 r5
        have x0 := M2.x.c0
        have x1 := M2.x.c1
        have r0 := (Kt.rd M2.r).1
        have r1 := (Kt.rd M2.r).2.1
        have r3 := (Kt.rd M2.r).2.2.2.1
        clear M2
        go_wp2_with fail
        refine (HTm.out _).mono ?_
        rintro e w3 ⟨rfl, k3⟩
        have M3 := HM2.out.below k3
        have HM3 : Hid (Cm w.heap.size ⟨u, o, ft, fm, fc, fs⟩ X w w3) := M3
        clear x0 x1 k3 HM2 r0 r1 r3
        have x0 := M3.x.c0
        have x1 := M3.x.c1
        have x2 := M3.x.f0
        have x3 := M3.x.f1
        have x4 := M3.x.lt
        clear M3
        go_wp2
        go_roundg (gk - 1)
        case rel => exact ⟨Y, (HR.out.next HT.out HX0.out HCh.out HY.out (HM3.out.setx Y)).1⟩
        case measure => exact (HR.out.next HT.out HX0.out HCh.out HY.out (HM3.out.setx Y)).2

end Go.Proofs.YtogdggdaaiajnadGreatDoor
end

section
/- Package ring: gcd. -/
set_option linter.unusedSimpArgs false
set_option linter.unusedVariables false
set_option maxRecDepth 100000
namespace Go.Proofs.YtogdggdaaiajnadGreatDoor
open Go.RowKit

/-- The state of Euclid's loop. -/
structure Er (b : Nat) (T : Int) (k : Kd) (x y X Y : Pp) (w W : World) : Prop where
  g : ∀ g, Gd T X Y g → Gd T x y g
  r : Kt b k W
  x : Sv (b + 1) X.a X.b W
  y : Sv (b + 2) Y.a Y.b W
  o : Sv (b + 3) 0 0 W
  k : Below b w W
  nx : Nb T X
  ny : Nb T Y
theorem Er.below {b : Nat} {T : Int} {k : Kd} {x y X Y : Pp} {w W W' : World} (h : Er b T k x y X Y w W) (c : Below W.heap.size W W') : Er b T k x y X Y w W' :=
  ⟨h.g, h.r.below c, h.x.below c, h.y.below c, h.o.below c, h.k.trans (c.mono (by have := h.o.lt; omega)), h.nx, h.ny⟩
theorem Er.alloc {b : Nat} {T : Int} {k : Kd} {x y X Y : Pp} {w W : World} (h : Er b T k x y X Y w W) (o : Obj) : Er b T k x y X Y w (W.alloc o) := h.below (Below.alloc (Below.refl _ _) (Nat.le_refl _) _)
theorem Er.drew {b : Nat} {T : Int} {k : Kd} {x y X Y : Pp} {w W : World} (h : Er b T k x y X Y w W) : Er b T k x y X Y w W.drew := h.below ((Below.refl _ _).drew)
theorem Er.step {b : Nat} {T : Int} (hT : TT T) {k : Kd} {x y X Y R : Pp} {w W : World} (h : Er b T k x y X Y w W) (h0 : Y ≠ Pp.zero) (hR : R = X.sub ((quo T X Y).mul T Y)) :
    Er b T k x y Y R w ((((W.setCell ⟨b + 1, 0, none⟩ (.int .i64 Y.a)).setCell ⟨b + 1, 1, none⟩ (.int .i64 Y.b)).setCell ⟨b + 2, 0, none⟩ (.int .i64 R.a)).setCell ⟨b + 2, 1, none⟩ (.int .i64 R.b)) ∧ (R.norm T).toNat < (Y.norm T).toNat := by
  obtain ⟨n1, n2⟩ := step_less hT (x := X) h.ny h0
  rw [← hR] at n1 n2
  have n3 := norm_nonneg T hT R
  refine ⟨⟨fun g hg => h.g g (Gd.step (q := quo T X Y) (by rw [← hR]; exact hg.symm)), ?_, ?_, ?_, ?_, ?_, h.ny, n1⟩, by omega⟩
  · exact ((((h.r.other (by show b ≠ b + 1; omega) _).other (by show b ≠ b + 1; omega) _).other (by show b ≠ b + 2; omega) _).other (by show b ≠ b + 2; omega) _)
  · exact (h.x.set Y.a Y.b).other _ _ (by omega)
  · exact (h.y.other _ _ (by omega)).set R.a R.b
  · exact (h.o.other _ _ (by omega)).other _ _ (by omega)
  · exact (((h.k.setCell (by show b ≤ b + 1; omega) _).setCell (by show b ≤ b + 1; omega) _).setCell (by show b ≤ b + 2; omega) _).setCell (by show b ≤ b + 2; omega) _
theorem er_new (w : World) (T : Int) (k : Kd) (x y : Pp) (hx : Nb T x) (hy : Nb T y) : Er w.heap.size T k x y x y w ((((w.alloc (.cells k.cells 55)).alloc (.cells #[.int .i64 x.a, .int .i64 x.b] 23)).alloc (.cells #[.int .i64 y.a, .int .i64 y.b] 23)).alloc (.cells #[.int .i64 0, .int .i64 0] 23)) :=
  ⟨fun g h => h, (((Cl.new k.list 55 w).alloc _).alloc _).alloc _, sv_alloc (sv_alloc (sv_new _ _ _ (by simp) _ _) _) _, sv_alloc (sv_new _ _ _ (by simp) _ _) _, sv_new _ _ _ (by simp) _ _, below4 _ _ _ _ _, hx, hy⟩

set_option maxHeartbeats 1000000 in
theorem rgcd_any (T : Int) (k : Kd) (K : KdIs T k) (x y : Pp) (w : World) (hT : TT T) (hx : Nb T x) (hy : Nb T y) :
    Calls Tryz.prog 66 #[k.v, pv x, pv y] w (GreatPost T x y w) := by
  have HT : Hid (TT T) := hT
  have HK : Hid (KdIs T k) := K
  have M0 := er_new w T k x y hx hy
  clear hx hy hT K
  obtain ⟨u, o, ft, fm, fc, fs⟩ := k
  go_enter Tryz.func66, Tryz.ntmps66
  go_wp2
  go_loopg [9] ((y.norm T).toNat) (fun g _ wx => ∃ X Y : Pp, Hid (Er w.heap.size T ⟨u, o, ft, fm, fc, fs⟩ x y X Y w wx ∧ g = (Y.norm T).toNat))
  case atStart => exact ⟨x, y, M0, rfl⟩
  case round =>
    clear M0
    obtain ⟨X, Y, HR⟩ := hrel
    have M := HR.out.1
    have HM : Hid (Er w.heap.size T ⟨u, o, ft, fm, fc, fs⟩ x y X Y w wr) := M
    have HG : Hid (gk = (Y.norm T).toNat) := HR.out.2
    have HZ : Hid (∀ w, Calls Tryz.prog 57 #[pv Y] w fun e w' => e = .returned (.bool (decide (Y = Pp.zero))) ∧ Below w.heap.size w w') := fun w => isZero_any Y w
    have y0 := M.y.c0
    have y1 := M.y.c1
    clear M HR
    by_cases hY : Y = Pp.zero
    · rw [decide_eq_true hY] at HZ
      have HY0 : Hid (Y = Pp.zero) := hY
      clear hY
      go_wp2_with fail
      refine (HZ.out _).mono ?_
      rintro e w1 ⟨rfl, k1⟩
      have M1 := HM.out.below k1
      have HM1 : Hid (Er w.heap.size T ⟨u, o, ft, fm, fc, fs⟩ x y X Y w w1) := M1
      clear y0 y1 k1 HM
      have x0 := M1.x.c0
      have x1 := M1.x.c1
      obtain ⟨r0, r1, r2, r3, r4, r5, r6⟩ := Kt.rd M1.r
      clear M1
      go_wp2_with fail
      refine (rchief_any T ⟨u, o, ft, fm, fc, fs⟩ HK.out X _ HT.out HM1.out.nx).mono ?_
      rintro e w2 ⟨g, rfl, d1, d2, hc, k2⟩
      have M2 := HM1.out.below k2
      have HK2 : Hid (Below w.heap.size w w2) := M2.k
      have HGd : Hid (Gd T x y g) := M2.g g (by rw [HY0.out]; exact (Gd.zero T X).to d1 d2)
      have HCh : Hid (IsCh T g ∨ g = Pp.zero) := hc.imp id (fun h => h.2)
      clear x0 x1 k2 HM1 r0 r1 r2 r3 r4 r5 r6 d1 d2 hc
      have o0 := M2.o.c0
      have o1 := M2.o.c1
      have o2 := M2.o.f0
      have o3 := M2.o.f1
      have o4 := M2.o.lt
      clear M2
      go_wp2
      refine bodyPost_ret (v := pv g) (by simp [results, Tryz.results66, go_sem, o0, o1, o4]) rfl ⟨g, rfl, HGd.out, HCh.out, ?_⟩
      exact (HK2.out.setCell (by simp <;> omega) _).setCell (by simp <;> omega) _
    · rw [decide_eq_false hY] at HZ
      have HY0 : Hid (Y ≠ Pp.zero) := hY
      clear hY
      go_wp2_with fail
      refine (HZ.out _).mono ?_
      rintro e w1 ⟨rfl, k1⟩
      have M1 := HM.out.below k1
      have HM1 : Hid (Er w.heap.size T ⟨u, o, ft, fm, fc, fs⟩ x y X Y w w1) := M1
      clear y0 y1 k1 HM
      have x0 := M1.x.c0
      have x1 := M1.x.c1
      have y0 := M1.y.c0
      have y1 := M1.y.c1
      obtain ⟨r0, r1, r2, r3, r4, r5, r6⟩ := Kt.rd M1.r
      clear M1
      have HD : Hid (∀ w, Calls Tryz.prog 65 #[Kd.v ⟨u, o, ft, fm, fc, fs⟩, pv X, pv Y] w fun e w' => e = .returned (.tuple #[pv (quo T X Y), pv (X.sub ((quo T X Y).mul T Y))]) ∧ Below w.heap.size w w') := fun w => rdiv_any T ⟨u, o, ft, fm, fc, fs⟩ HK.out X Y w HT.out HM1.out.nx HM1.out.ny HY0.out
      obtain ⟨R, hR⟩ : ∃ R, R = X.sub ((quo T X Y).mul T Y) := ⟨_, rfl⟩
      obtain ⟨q, hq⟩ : ∃ q, q = quo T X Y := ⟨_, rfl⟩
      rw [← hR, ← hq] at HD
      have HRR : Hid (R = X.sub ((quo T X Y).mul T Y)) := hR
      clear hR hq
      go_wp2_with fail
      refine (HD.out _).mono ?_
      rintro e w2 ⟨rfl, k2⟩
      have M3 := ((HM1.out.below k2).alloc (.cells #[.int .i64 q.a, .int .i64 q.b] 23)).alloc (.cells #[.int .i64 R.a, .int .i64 R.b] 23)
      have L3 := sv_new (w2.alloc (.cells #[.int .i64 q.a, .int .i64 q.b] 23)) 23 (w2.heap.size + 1) (by simp) R.a R.b
      have z2 : w.heap.size + 3 < w2.heap.size := by have := (HM1.out.below k2).o.lt; exact this
      clear k2 x0 x1 y0 y1 r0 r1 r2 r3 r4 r5 r6 HD HM1
      go_wp2_with fail
      obtain ⟨W3, hW3⟩ : ∃ W3, W3 = ((w2.alloc (.cells #[.int .i64 q.a, .int .i64 q.b] 23)).alloc (.cells #[.int .i64 R.a, .int .i64 R.b] 23)) := ⟨_, rfl⟩
      rw [← hW3] at M3 L3 ⊢
      clear hW3
      have HM3 : Hid (Er w.heap.size T ⟨u, o, ft, fm, fc, fs⟩ x y X Y w W3) := M3
      have x0 := M3.x.c0
      have x1 := M3.x.c1
      have x2 := M3.x.f0
      have x3 := M3.x.f1
      have x4 := M3.x.lt
      have y0 := M3.y.c0
      have y1 := M3.y.c1
      have y2 := M3.y.f0
      have y3 := M3.y.f1
      have y4 := M3.y.lt
      refine wp_region_G (fun W => Rp (w.heap.size + 2) Y W ∧ Rp (w2.heap.size + 1) R W) 3 (by kernel_rfl) ⟨⟨y0, y1⟩, L3.c0, L3.c1⟩ (fun hHeld => ?_)
      refine wpAnyG_take (i := 0) (v := ?v0) rfl (by kernel_rfl) (fun _ _ _ h => h) (Or.inl ⟨by rfl, ?y0⟩) hHeld ?r0
      case y0 => (intro wS hSw; obtain ⟨⟨s1, s2⟩, s3, s4⟩ := hSw; go_simp; try with_reducible rfl)
      try simp only [Act.put, List.setIfInBounds_toArray, List.set_cons_zero, List.set_cons_succ]
      refine wpAnyG_take (i := 1) (v := ?v1) rfl (by kernel_rfl) (fun _ _ _ h => h) (Or.inl ⟨by rfl, ?y1⟩) hHeld ?r1
      case y1 => (intro wS hSw; obtain ⟨⟨s1, s2⟩, s3, s4⟩ := hSw; go_simp; try with_reducible rfl)
      try simp only [Act.put, List.setIfInBounds_toArray, List.set_cons_zero, List.set_cons_succ]
      refine wpAnyG_one (i := 2) rfl (by kernel_rfl) (fun K hK => ?_)
      go_simp
      have Y5 := (M3.y.other (.int .i64 Y.a) (.int .i64 Y.b) (show w.heap.size + 1 ≠ w.heap.size + 2 by omega)).drew
      have L5 := (L3.other (.int .i64 Y.a) (.int .i64 Y.b) (show w.heap.size + 1 ≠ w2.heap.size + 1 by omega)).drew
      refine hK.out _ _ ⟨⟨Y5.c0, Y5.c1⟩, L5.c0, L5.c1⟩ ?_
      clear hK K
      try simp only [Act.put, List.setIfInBounds_toArray, List.set_cons_zero, List.set_cons_succ]
      refine wpAnyG_last (i := 3) rfl (by kernel_rfl) (by kernel_rfl) (fun K hK => ?_)
      go_simp
      refine hK.out _ _ ?_
      clear hK K
      try simp only [Act.put, List.setIfInBounds_toArray, List.set_cons_zero, List.set_cons_succ]
      refine wpAnyG_done (by kernel_rfl) ?_ _
      clear hHeld Y5 L5 L3 M3 x0 x1 x2 x3 x4 y0 y1 y2 y3 y4
      go_wp2
      go_roundg ((R.norm T).toNat)
      case rel => exact ⟨Y, R, (HM3.out.step HT.out HY0.out HRR.out).1.drew, rfl⟩
      case measure => rw [HG.out]; exact (HM3.out.step HT.out HY0.out HRR.out).2

end Go.Proofs.YtogdggdaaiajnadGreatDoor
end

section
/- Package ring: Norm, Mul, Div, Gcd, with their faults. -/
set_option linter.unusedSimpArgs false
set_option linter.unusedVariables false
set_option maxRecDepth 100000
namespace Go.Proofs.YtogdggdaaiajnadGreatDoor
open Go.RowKit

/-- The fault of one pair, of two. -/
theorem pairs_one (x : Pp) (b cap : Nat) (w : World) (hb : b < w.heap.size) (h0 : w.cell? ⟨b, 0, none⟩ = some (.int .i64 x.a)) (h1 : w.cell? ⟨b, 1, none⟩ = some (.int .i64 x.b)) :
    Calls Tryz.prog 53 #[.slice (some ⟨b, 0, none⟩) 1 cap] w fun e w' => e = .returned (.agg #[.int .i64 (pfl 0 [x]).1, .int .i64 (pfl 0 [x]).2]) ∧ Below w.heap.size w w' :=
  Pairs_any [x] b cap w (by simp) hb (fun j hj => by obtain rfl : j = 0 := by simp at hj; omega
                                                     exact ⟨h0, h1⟩)
theorem pairs_two (x y : Pp) (b cap : Nat) (w : World) (hb : b < w.heap.size) (h0 : w.cell? ⟨b, 0, none⟩ = some (.int .i64 x.a)) (h1 : w.cell? ⟨b, 1, none⟩ = some (.int .i64 x.b)) (h2 : w.cell? ⟨b, 2, none⟩ = some (.int .i64 y.a)) (h3 : w.cell? ⟨b, 3, none⟩ = some (.int .i64 y.b)) :
    Calls Tryz.prog 53 #[.slice (some ⟨b, 0, none⟩) 2 cap] w fun e w' => e = .returned (.agg #[.int .i64 (pfl 0 [x, y]).1, .int .i64 (pfl 0 [x, y]).2]) ∧ Below w.heap.size w w' :=
  Pairs_any [x, y] b cap w (by simp) hb (fun j hj => by
    have : j = 0 ∨ j = 1 := by simp at hj; omega
    rcases this with rfl | rfl
    · exact ⟨h0, h1⟩
    · exact ⟨h2, h3⟩)

theorem cm_newT (w : World) (k : Kd) (x : Pp) (t : TypeId) : Cm w.heap.size k x w (((w.alloc (.cells k.cells 55)).alloc (.cells #[.int .i64 x.a, .int .i64 x.b] 23)).alloc (.cells #[.int .i64 0, .int .i64 0] t)) :=
  ⟨((Cl.new k.list 55 w).alloc _).alloc _, sv_alloc (sv_new _ _ _ (by simp) _ _) _, sv_new _ _ _ (by simp) _ _, below3 _ _ _ _⟩
theorem Cm.alloc {b : Nat} {k : Kd} {x : Pp} {w W : World} (h : Cm b k x w W) (o : Obj) : Cm b k x w (W.alloc o) := h.below (Below.alloc (Below.refl _ _) (Nat.le_refl _) _)
theorem dm_newT (w : World) (k : Kd) (x y : Pp) (t4 t5 : TypeId) : Dm w.heap.size k x y Pp.zero w (((((w.alloc (.cells k.cells 55)).alloc (.cells #[.int .i64 x.a, .int .i64 x.b] 23)).alloc (.cells #[.int .i64 y.a, .int .i64 y.b] 23)).alloc (.cells #[.int .i64 0, .int .i64 0] t4)).alloc (.cells #[.int .i64 0, .int .i64 0] t5)) :=
  ⟨((((Cl.new k.list 55 w).alloc _).alloc _).alloc _).alloc _, sv_alloc (sv_alloc (sv_alloc (sv_new _ _ _ (by simp) _ _) _) _) _, sv_alloc (sv_alloc (sv_new _ _ _ (by simp) _ _) _) _, sv_alloc (sv_new _ _ _ (by simp) _ _) _, sv_new _ _ _ (by simp) _ _, (below4 _ _ _ _ _).alloc (by simp; omega) _⟩
theorem pfl_one (x : Pp) : (okP x = true ∧ pfl 0 [x] = (0, 0)) ∨ (okP x = false ∧ pfl 0 [x] = (3, 0)) := by
  cases h : okP x <;> simp [pfl, h]
theorem pfl_two (x y : Pp) : (okP x = true ∧ okP y = true ∧ pfl 0 [x, y] = (0, 0)) ∨ (∃ d : Int, pfl 0 [x, y] = (3, d)) := by
  cases h : okP x <;> cases h2 : okP y <;> simp [pfl, h, h2]
theorem okP_nb {T : Int} (hT : TT T) {x : Pp} (h : okP x = true) : Nb T x := Nb.of hT (okP_true h)

set_option maxHeartbeats 1000000 in
theorem rNorm_any (T : Int) (k : Kd) (K : KdIs T k) (x : Pp) (w : World) (hT : TT T) :
    Calls Tryz.prog 38 #[k.v, pv x] w fun e w' => e = .returned (.tuple #[.int .i64 (if okP x then x.norm T else 0), fv (pfl 0 [x])]) ∧ Below w.heap.size w w' := by
  have HK : Hid (KdIs T k) := K
  have M0 := (cm_newT w k x 28).alloc (.cells #[.int .i64 x.a, .int .i64 x.b] 23)
  have HM0 : Hid (Cm w.heap.size k x w ((((w.alloc (.cells k.cells 55)).alloc (.cells #[.int .i64 x.a, .int .i64 x.b] 23)).alloc (.cells #[.int .i64 0, .int .i64 0] 28)).alloc (.cells #[.int .i64 x.a, .int .i64 x.b] 23))) := M0
  clear M0
  rcases pfl_one x with ⟨ho, hp⟩ | ⟨ho, hp⟩
  · rw [if_pos ho]
    have HN : Hid (∀ w, Calls Tryz.prog 55 #[k.v, pv x] w fun e w' => e = .returned (.int .i64 (x.norm T)) ∧ Below w.heap.size w w') := fun w => rnorm_any T k K x w hT ((okP_nb hT ho).bd hT)
    have HPf : Hid (pfl 0 [x] = (0, 0)) := hp
    rw [hp]
    clear hT K ho hp
    obtain ⟨n, hn⟩ : ∃ n, n = x.norm T := ⟨_, rfl⟩
    rw [← hn] at HN ⊢
    clear hn
    obtain ⟨u, o, ft, fm, fc, fs⟩ := k
    go_enter Tryz.func38, Tryz.ntmps38
    go_wp2_with fail
    have A0 := sv_new (((w.alloc (.cells (Kd.cells ⟨u, o, ft, fm, fc, fs⟩) 55)).alloc (.cells #[.int .i64 x.a, .int .i64 x.b] 23)).alloc (.cells #[.int .i64 0, .int .i64 0] 28)) 23 (w.heap.size + 1 + 1 + 1) (by simp) x.a x.b
    refine (pairs_one x _ _ _ A0.lt A0.c0 A0.c1).mono ?_
    clear A0
    rw [HPf.out]
    rintro e w1 ⟨rfl, k1⟩
    have M1 := (HM0.out.below k1).alloc (.cells #[.int .i64 0, .int .i64 0] 28)
    have HM1 : Hid (Cm w.heap.size ⟨u, o, ft, fm, fc, fs⟩ x w (w1.alloc (.cells #[.int .i64 0, .int .i64 0] 28))) := M1
    clear HM0 k1
    have x0 := M1.x.c0
    have x1 := M1.x.c1
    obtain ⟨r0, r1, r2, r3, r4, r5, r6⟩ := Kt.rd M1.r
    clear M1
    go_wp2_with fail
    refine (HN.out _).mono ?_
    rintro e w2 ⟨rfl, k2⟩
    have M2 := HM1.out.below k2
    have HK2 : Hid (Below w.heap.size w w2) := M2.k
    clear HM1 k2 x0 x1 r0 r1 r2 r3 r4 r5 r6
    have o0 := M2.o.c0
    have o1 := M2.o.c1
    have o2 := M2.o.f0
    have o3 := M2.o.f1
    have o4 := M2.o.lt
    clear M2
    go_wp2
    refine bodyPost_ret (v := .tuple #[.int .i64 n, fv (0, 0)]) (by simp [results, Tryz.results38, go_sem, o0, o1, o4]) rfl ⟨rfl, ?_⟩
    exact (HK2.out.setCell (by simp <;> omega) _).setCell (by simp <;> omega) _
  · rw [ho, if_neg (by decide)]
    have HPf : Hid (pfl 0 [x] = (3, 0)) := hp
    rw [hp]
    clear hT K ho hp
    obtain ⟨u, o, ft, fm, fc, fs⟩ := k
    go_enter Tryz.func38, Tryz.ntmps38
    go_wp2_with fail
    have A0 := sv_new (((w.alloc (.cells (Kd.cells ⟨u, o, ft, fm, fc, fs⟩) 55)).alloc (.cells #[.int .i64 x.a, .int .i64 x.b] 23)).alloc (.cells #[.int .i64 0, .int .i64 0] 28)) 23 (w.heap.size + 1 + 1 + 1) (by simp) x.a x.b
    refine (pairs_one x _ _ _ A0.lt A0.c0 A0.c1).mono ?_
    clear A0
    rw [HPf.out]
    rintro e w1 ⟨rfl, k1⟩
    have M1 := (HM0.out.below k1).alloc (.cells #[.int .i64 3, .int .i64 0] 28)
    have HK1 : Hid (Below w.heap.size w (w1.alloc (.cells #[.int .i64 3, .int .i64 0] 28))) := M1.k
    clear HM0 k1
    have o0 := M1.o.c0
    have o1 := M1.o.c1
    have o2 := M1.o.f0
    have o3 := M1.o.f1
    have o4 := M1.o.lt
    have F1 := sv_new w1 28 w1.heap.size rfl 3 0
    clear M1
    go_wp2_with fail
    refine wp_region_G (fun W => W.cell? ⟨w1.heap.size, 0, none⟩ = some (.int .i64 3) ∧ W.cell? ⟨w1.heap.size, 1, none⟩ = some (.int .i64 0)) 2 (by kernel_rfl) ⟨F1.c0, F1.c1⟩ (fun hHeld => ?_)
    refine wpAnyG_take (i := 0) (v := ?v0x1) rfl (by kernel_rfl) (fun _ _ _ h => h) (Or.inl ⟨by rfl, ?y0x1⟩) hHeld ?r0x1
    case y0x1 => (intro wS hSw; obtain ⟨s1, s2⟩ := hSw; go_simp; try with_reducible rfl)
    try simp only [Act.put, List.setIfInBounds_toArray, List.set_cons_zero, List.set_cons_succ]
    refine wpAnyG_take (i := 1) (v := ?v1x2) rfl (by kernel_rfl) (fun _ _ _ h => h) (Or.inl ⟨by rfl, ?y1x2⟩) hHeld ?r1x2
    case y1x2 => (intro wS hSw; obtain ⟨s1, s2⟩ := hSw; go_simp; try with_reducible rfl)
    try simp only [Act.put, List.setIfInBounds_toArray, List.set_cons_zero, List.set_cons_succ]
    refine wpAnyG_last (i := 2) rfl (by kernel_rfl) (by kernel_rfl) (fun K hK => ?_)
    go_simp
    refine hK.out _ _ ?_
    clear hK K
    try simp only [Act.put, List.setIfInBounds_toArray, List.set_cons_zero, List.set_cons_succ]
    refine wpAnyG_done (by kernel_rfl) ?_ _
    clear hHeld F1
    go_wp2
    refine bodyPost_ret (v := .tuple #[.int .i64 0, fv (3, 0)]) (by simp [results, Tryz.results38, go_sem, o0, o1, o4]) rfl ⟨rfl, ?_⟩
    exact ((HK1.out.setCell (by simp <;> omega) _).setCell (by simp <;> omega) _).drew

theorem Dm.fin0 {b : Nat} {k : Kd} {x y p : Pp} {w W : World} (h : Dm b k x y p w W) (q : Pp) (l1 l2 : Int) : Df b q ⟨l1, l2⟩ w ((((W.setCell ⟨b + 1 + 1 + 1, 0, none⟩ (.int .i64 q.a)).setCell ⟨b + 1 + 1 + 1, 1, none⟩ (.int .i64 q.b)).setCell ⟨b + 1 + 1 + 1 + 1, 0, none⟩ (.int .i64 l1)).setCell ⟨b + 1 + 1 + 1 + 1, 1, none⟩ (.int .i64 l2)) :=
  have h2 := h.setq q
  ⟨(h2.q.other _ _ (by omega)), (h2.l.set l1 l2), ((h2.k.setCell (by show b ≤ b + 4; omega) _).setCell (by show b ≤ b + 4; omega) _)⟩
theorem cl_new (W : World) (l : List Value) (t : TypeId) (z : Nat) (hz : W.heap.size = z) : Cl z l t (W.alloc (.cells l.toArray t)) := by subst hz; exact Cl.new l t W
theorem mulF_two (T : Int) (x y : Pp) (d : Int) (h : pfl 0 [x, y] = (3, d)) : mulF T x y = (3, d) ∧ mulV T x y = Pp.zero := by
  have h1 : mulF T x y = (3, d) := by unfold mulF; rw [h, if_pos (by simp)]
  exact ⟨h1, by unfold mulV; rw [h1, if_neg (by simp)]⟩
theorem mulF_much (T : Int) (x y : Pp) (h : pfl 0 [x, y] = (0, 0)) (ho : okP (x.mul T y) = false) : mulF T x y = (9, 0) ∧ mulV T x y = Pp.zero := by
  have h1 : mulF T x y = (9, 0) := by unfold mulF; rw [h, if_neg (by simp), ho]; rfl
  exact ⟨h1, by unfold mulV; rw [h1, if_neg (by simp)]⟩
theorem mulF_ok (T : Int) (x y : Pp) (h : pfl 0 [x, y] = (0, 0)) (ho : okP (x.mul T y) = true) : mulF T x y = (0, 0) ∧ mulV T x y = x.mul T y := by
  have h1 : mulF T x y = (0, 0) := by unfold mulF; rw [h, if_neg (by simp), ho]; rfl
  exact ⟨h1, by unfold mulV; rw [h1, if_pos rfl]⟩

set_option maxHeartbeats 1000000 in
theorem rMul_any (T : Int) (k : Kd) (K : KdIs T k) (x y : Pp) (w : World) (hT : TT T) :
    Calls Tryz.prog 39 #[k.v, pv x, pv y] w fun e w' => e = .returned (.tuple #[pv (mulV T x y), fv (mulF T x y)]) ∧ Below w.heap.size w w' := by
  have HK : Hid (KdIs T k) := K
  have M0 := (dm_newT w k x y 23 28).alloc (.cells #[.int .i64 x.a, .int .i64 x.b, .int .i64 y.a, .int .i64 y.b] 23)
  have A0 := cl_new (((((w.alloc (.cells k.cells 55)).alloc (.cells #[.int .i64 x.a, .int .i64 x.b] 23)).alloc (.cells #[.int .i64 y.a, .int .i64 y.b] 23)).alloc (.cells #[.int .i64 0, .int .i64 0] 23)).alloc (.cells #[.int .i64 0, .int .i64 0] 28)) [.int .i64 x.a, .int .i64 x.b, .int .i64 y.a, .int .i64 y.b] 23 (w.heap.size + 1 + 1 + 1 + 1 + 1) (by simp)
  obtain ⟨W0, hW0⟩ : ∃ W0, W0 = (((((w.alloc (.cells k.cells 55)).alloc (.cells #[.int .i64 x.a, .int .i64 x.b] 23)).alloc (.cells #[.int .i64 y.a, .int .i64 y.b] 23)).alloc (.cells #[.int .i64 0, .int .i64 0] 23)).alloc (.cells #[.int .i64 0, .int .i64 0] 28)).alloc (.cells #[.int .i64 x.a, .int .i64 x.b, .int .i64 y.a, .int .i64 y.b] 23) := ⟨_, rfl⟩
  rw [← hW0] at M0
  rw [show (#[.int .i64 x.a, .int .i64 x.b, .int .i64 y.a, .int .i64 y.b] : Array Value) = [.int .i64 x.a, .int .i64 x.b, .int .i64 y.a, .int .i64 y.b].toArray from rfl] at hW0
  rw [← hW0] at A0
  have HP : Hid (Calls Tryz.prog 53 #[.slice (some ⟨w.heap.size + 1 + 1 + 1 + 1 + 1, 0, none⟩) 2 2] W0 fun e w' => e = .returned (.agg #[.int .i64 (pfl 0 [x, y]).1, .int .i64 (pfl 0 [x, y]).2]) ∧ Below W0.heap.size W0 w') := pairs_two x y _ _ W0 A0.lt (A0.cell 0) (A0.cell 1) (A0.cell 2) (A0.cell 3)
  have HM0 : Hid (Dm w.heap.size k x y Pp.zero w W0) := M0
  have HW0 : Hid (W0 = (((((w.alloc (.cells k.cells 55)).alloc (.cells #[.int .i64 x.a, .int .i64 x.b] 23)).alloc (.cells #[.int .i64 y.a, .int .i64 y.b] 23)).alloc (.cells #[.int .i64 0, .int .i64 0] 23)).alloc (.cells #[.int .i64 0, .int .i64 0] 28)).alloc (.cells #[.int .i64 x.a, .int .i64 x.b, .int .i64 y.a, .int .i64 y.b] 23)) := hW0
  clear M0 A0 hW0
  rcases pfl_two x y with ⟨ho, ho2, hp⟩ | ⟨d, hp⟩
  · rw [hp] at HP
    have HTm : Hid (∀ w, Calls Tryz.prog k.ft #[pv x, pv y] w fun e w' => e = .returned (pv (x.mul T y)) ∧ Below w.heap.size w w') := fun w => K.times x y w (Mb.of (okP_true ho) (okP_true ho2) (by omega))
    have HI : Hid (∀ w, Calls Tryz.prog 64 #[pv (x.mul T y)] w fun e w' => e = .returned (.bool (okP (x.mul T y))) ∧ Below w.heap.size w w') := fun w => IsPair_any _ w
    have hF := mulF_ok T x y hp
    have hG := mulF_much T x y hp
    obtain ⟨z, hz⟩ : ∃ z, z = x.mul T y := ⟨_, rfl⟩
    rw [← hz] at HTm HI hF hG
    have et := K.et
    clear hz hp ho ho2 hT K
    obtain ⟨u, o, ft, fm, fc, fs⟩ := k
    have Hgo : ∀ (V : Pp) (F : Int × Int) (b : Bool), okP z = b → (b = true → V = z ∧ F = (0, 0)) → (b = false → V = Pp.zero ∧ F = (9, 0)) →
        Calls Tryz.prog 39 #[Kd.v ⟨u, o, ft, fm, fc, fs⟩, pv x, pv y] w fun e w' => e = .returned (.tuple #[pv V, fv F]) ∧ Below w.heap.size w w' := by
      intro V F b hb h1 h2
      rw [hb] at HI
      clear hF hG hb
      cases b
      · obtain ⟨rfl, rfl⟩ := h2 rfl
        clear h1 h2
        go_enter Tryz.func39, Tryz.ntmps39
        go_wp2_with fail
        rw [← HW0.out]
        refine HP.out.mono ?_
        rintro e w1 ⟨rfl, k1⟩
        have M1 := (HM0.out.below k1).alloc (.cells #[.int .i64 0, .int .i64 0] 28)
        have HM1 : Hid (Dm w.heap.size ⟨u, o, ft, fm, fc, fs⟩ x y Pp.zero w (w1.alloc (.cells #[.int .i64 0, .int .i64 0] 28))) := M1
        clear HM0 k1 HP HW0
        have x0 := M1.x.c0
        have x1 := M1.x.c1
        have y0 := M1.y.c0
        have y1 := M1.y.c1
        obtain ⟨r0, r1, r2, r3, r4, r5, r6⟩ := Kt.rd M1.r
        clear M1
        go_wp2_with fail
        refine (HTm.out _).mono ?_
        rintro e w2 ⟨rfl, k2⟩
        have M2 := (HM1.out.below k2).alloc (.cells #[.int .i64 z.a, .int .i64 z.b] 23)
        have HM2 : Hid (Dm w.heap.size ⟨u, o, ft, fm, fc, fs⟩ x y Pp.zero w (w2.alloc (.cells #[.int .i64 z.a, .int .i64 z.b] 23))) := M2
        have z2 : w.heap.size + 4 < w2.heap.size := (HM1.out.below k2).l.lt
        clear HM1 k2 x0 x1 y0 y1 r0 r1 r2 r3 r4 r5 r6 M2
        go_wp2_with fail
        refine (HI.out _).mono ?_
        rintro e w3 ⟨rfl, k3⟩
        have M3 := HM2.out.below k3
        have HK3 : Hid (Below w.heap.size w w3) := M3.k
        have P3 := (sv_new w2 23 w2.heap.size rfl z.a z.b).below k3
        clear HM2 k3
        have q0 := M3.q.c0
        have q1 := M3.q.c1
        have q2 := M3.q.f0
        have q3 := M3.q.f1
        have q4 := M3.q.lt
        have l0 := M3.l.c0
        have l1 := M3.l.c1
        have l2 := M3.l.f0
        have l3 := M3.l.f1
        have l4 := M3.l.lt
        have p0 := P3.c0
        have p1 := P3.c1
        go_wp2_with fail
        have E := M3.fin0 Pp.zero 9 0
        clear q0 q1 q2 q3 q4 l0 l1 l2 l3 l4 p0 p1 P3 M3
        generalize hWF : World.setCell _ _ _ = WF
        replace E : Df w.heap.size Pp.zero ⟨9, 0⟩ w WF := hWF ▸ E
        clear hWF
        have e0 := E.q.c0
        have e1 := E.q.c1
        have e4 := E.q.lt
        have g0 := E.l.c0
        have g1 := E.l.c1
        have g4 := E.l.lt
        exact bodyPost_ret (v := .tuple #[pv Pp.zero, fv (9, 0)]) (by simp [results, Tryz.results39, go_sem, e0, e1, e4, g0, g1, g4]) rfl ⟨rfl, E.k⟩
      · obtain ⟨hV, hF0⟩ := h1 rfl
        rw [hV, hF0]
        clear h1 h2 hV hF0
        go_enter Tryz.func39, Tryz.ntmps39
        go_wp2_with fail
        rw [← HW0.out]
        refine HP.out.mono ?_
        rintro e w1 ⟨rfl, k1⟩
        have M1 := (HM0.out.below k1).alloc (.cells #[.int .i64 0, .int .i64 0] 28)
        have HM1 : Hid (Dm w.heap.size ⟨u, o, ft, fm, fc, fs⟩ x y Pp.zero w (w1.alloc (.cells #[.int .i64 0, .int .i64 0] 28))) := M1
        clear HM0 k1 HP HW0
        have x0 := M1.x.c0
        have x1 := M1.x.c1
        have y0 := M1.y.c0
        have y1 := M1.y.c1
        obtain ⟨r0, r1, r2, r3, r4, r5, r6⟩ := Kt.rd M1.r
        clear M1
        go_wp2_with fail
        refine (HTm.out _).mono ?_
        rintro e w2 ⟨rfl, k2⟩
        have M2 := (HM1.out.below k2).alloc (.cells #[.int .i64 z.a, .int .i64 z.b] 23)
        have HM2 : Hid (Dm w.heap.size ⟨u, o, ft, fm, fc, fs⟩ x y Pp.zero w (w2.alloc (.cells #[.int .i64 z.a, .int .i64 z.b] 23))) := M2
        have z2 : w.heap.size + 4 < w2.heap.size := (HM1.out.below k2).l.lt
        clear HM1 k2 x0 x1 y0 y1 r0 r1 r2 r3 r4 r5 r6 M2
        go_wp2_with fail
        refine (HI.out _).mono ?_
        rintro e w3 ⟨rfl, k3⟩
        have M3 := HM2.out.below k3
        have HK3 : Hid (Below w.heap.size w w3) := M3.k
        have P3 := (sv_new w2 23 w2.heap.size rfl z.a z.b).below k3
        clear HM2 k3
        have q0 := M3.q.c0
        have q1 := M3.q.c1
        have q2 := M3.q.f0
        have q3 := M3.q.f1
        have q4 := M3.q.lt
        have l0 := M3.l.c0
        have l1 := M3.l.c1
        have l2 := M3.l.f0
        have l3 := M3.l.f1
        have l4 := M3.l.lt
        have p0 := P3.c0
        have p1 := P3.c1
        go_wp2_with fail
        have E := M3.fin0 z 0 0
        clear q0 q1 q2 q3 q4 l0 l1 l2 l3 l4 p0 p1 P3 M3
        generalize hWF : World.setCell _ _ _ = WF
        replace E : Df w.heap.size z ⟨0, 0⟩ w WF := hWF ▸ E
        clear hWF
        have e0 := E.q.c0
        have e1 := E.q.c1
        have e4 := E.q.lt
        have g0 := E.l.c0
        have g1 := E.l.c1
        have g4 := E.l.lt
        exact bodyPost_ret (v := .tuple #[pv z, fv (0, 0)]) (by simp [results, Tryz.results39, go_sem, e0, e1, e4, g0, g1, g4]) rfl ⟨rfl, E.k⟩
    cases hb : okP z
    · have h := hG hb
      rw [h.1, h.2]
      exact Hgo _ _ false hb (by simp) (fun _ => ⟨rfl, rfl⟩)
    · have h := hF hb
      rw [h.1, h.2]
      exact Hgo _ _ true hb (fun _ => ⟨rfl, rfl⟩) (by simp)
  · have hF := mulF_two T x y d hp
    rw [hF.1, hF.2]
    rw [hp] at HP
    clear hF hp hT K
    obtain ⟨u, o, ft, fm, fc, fs⟩ := k
    go_enter Tryz.func39, Tryz.ntmps39
    go_wp2_with fail
    rw [← HW0.out]
    refine HP.out.mono ?_
    rintro e w1 ⟨rfl, k1⟩
    have M1 := (HM0.out.below k1).alloc (.cells #[.int .i64 3, .int .i64 d] 28)
    have z1 : w.heap.size + 4 < w1.heap.size := (HM0.out.below k1).l.lt
    have HK1 : Hid (Below w.heap.size w (w1.alloc (.cells #[.int .i64 3, .int .i64 d] 28))) := M1.k
    clear HM0 k1 HP HW0
    have P1 := sv_new w1 28 w1.heap.size rfl 3 d
    have q0 := M1.q.c0
    have q1 := M1.q.c1
    have q2 := M1.q.f0
    have q3 := M1.q.f1
    have q4 := M1.q.lt
    have l0 := M1.l.c0
    have l1 := M1.l.c1
    have l2 := M1.l.f0
    have l3 := M1.l.f1
    have l4 := M1.l.lt
    go_wp2_with fail
    refine wp_region_G (fun W => W.cell? ⟨w1.heap.size, 0, none⟩ = some (.int .i64 3) ∧ W.cell? ⟨w1.heap.size, 1, none⟩ = some (.int .i64 d)) 3 (by kernel_rfl) ⟨P1.c0, P1.c1⟩ (fun hHeld => ?_)
    refine wpAnyG_take (i := 0) (v := ?v0x3) rfl (by kernel_rfl) (fun _ _ _ h => h) (Or.inl ⟨by rfl, ?y0x3⟩) hHeld ?r0x3
    case y0x3 => (intro wS hSw; obtain ⟨s1, s2⟩ := hSw; go_simp; try with_reducible rfl)
    try simp only [Act.put, List.setIfInBounds_toArray, List.set_cons_zero, List.set_cons_succ]
    refine wpAnyG_take (i := 1) (v := ?v1x4) rfl (by kernel_rfl) (fun _ _ _ h => h) (Or.inl ⟨by rfl, ?y1x4⟩) hHeld ?r1x4
    case y1x4 => (intro wS hSw; obtain ⟨s1, s2⟩ := hSw; go_simp; try with_reducible rfl)
    try simp only [Act.put, List.setIfInBounds_toArray, List.set_cons_zero, List.set_cons_succ]
    refine wpAnyG_one (i := 2) rfl (by kernel_rfl) (fun K hK => ?_)
    go_simp
    have P2 := (P1.other (.int .i64 0) (.int .i64 0) (show w.heap.size + 3 ≠ w1.heap.size by omega)).drew
    refine hK.out _ _ ⟨P2.c0, P2.c1⟩ ?_
    clear hK K
    try simp only [Act.put, List.setIfInBounds_toArray, List.set_cons_zero, List.set_cons_succ]
    refine wpAnyG_last (i := 3) rfl (by kernel_rfl) (by kernel_rfl) (fun K hK => ?_)
    go_simp
    refine hK.out _ _ ?_
    clear hK K
    try simp only [Act.put, List.setIfInBounds_toArray, List.set_cons_zero, List.set_cons_succ]
    refine wpAnyG_done (by kernel_rfl) ?_ _
    clear hHeld P2
    go_wp2_with fail
    have E := M1.fin Pp.zero 3 d
    generalize hWF : World.drew _ = WF
    replace E : Df w.heap.size Pp.zero ⟨3, d⟩ w WF := hWF ▸ E
    clear hWF
    have e0 := E.q.c0
    have e1 := E.q.c1
    have e4 := E.q.lt
    have g0 := E.l.c0
    have g1 := E.l.c1
    have g4 := E.l.lt
    exact bodyPost_ret (v := .tuple #[pv Pp.zero, fv (3, d)]) (by simp [results, Tryz.results39, go_sem, e0, e1, e4, g0, g1, g4]) rfl ⟨rfl, E.k⟩

end Go.Proofs.YtogdggdaaiajnadGreatDoor
end

section
/- Package ring: Gcd, Div, with their faults. -/
set_option linter.unusedSimpArgs false
set_option linter.unusedVariables false
set_option maxRecDepth 100000
namespace Go.Proofs.YtogdggdaaiajnadGreatDoor
open Go.RowKit

/-- What Gcd answers. -/
def GcdOut (T : Int) (x y : Pp) (w : World) (e : Ending) (w' : World) : Prop :=
  (∃ g, e = .returned (.tuple #[pv g, fv (pfl 0 [x, y])]) ∧ (pfl 0 [x, y] ≠ (0, 0) → g = Pp.zero) ∧ (pfl 0 [x, y] = (0, 0) → Gd T x y g ∧ (IsCh T g ∨ g = Pp.zero))) ∧ Below w.heap.size w w'
theorem GcdOut.bad {T : Int} {x y : Pp} {w w' : World} {d : Int} (h : pfl 0 [x, y] = (3, d)) (k : Below w.heap.size w w') : GcdOut T x y w (.returned (.tuple #[pv Pp.zero, fv (3, d)])) w' :=
  ⟨⟨Pp.zero, by rw [h], fun _ => rfl, fun h2 => by rw [h] at h2; simp at h2⟩, k⟩
theorem GcdOut.good {T : Int} {x y g : Pp} {w w' : World} (h : pfl 0 [x, y] = (0, 0)) (h1 : Gd T x y g) (h2 : IsCh T g ∨ g = Pp.zero) (k : Below w.heap.size w w') : GcdOut T x y w (.returned (.tuple #[pv g, fv (0, 0)])) w' :=
  ⟨⟨g, by rw [h], fun h3 => absurd h h3, fun _ => ⟨h1, h2⟩⟩, k⟩

set_option maxHeartbeats 1000000 in
theorem rGcd_any (T : Int) (k : Kd) (K : KdIs T k) (x y : Pp) (w : World) (hT : TT T) :
    Calls Tryz.prog 41 #[k.v, pv x, pv y] w (GcdOut T x y w) := by
  have HK : Hid (KdIs T k) := K
  have M0 := (dm_newT w k x y 23 28).alloc (.cells #[.int .i64 x.a, .int .i64 x.b, .int .i64 y.a, .int .i64 y.b] 23)
  have A0 := cl_new (((((w.alloc (.cells k.cells 55)).alloc (.cells #[.int .i64 x.a, .int .i64 x.b] 23)).alloc (.cells #[.int .i64 y.a, .int .i64 y.b] 23)).alloc (.cells #[.int .i64 0, .int .i64 0] 23)).alloc (.cells #[.int .i64 0, .int .i64 0] 28)) [.int .i64 x.a, .int .i64 x.b, .int .i64 y.a, .int .i64 y.b] 23 (w.heap.size + 1 + 1 + 1 + 1 + 1) (by simp)
  obtain ⟨W0, hW0⟩ : ∃ W0, W0 = (((((w.alloc (.cells k.cells 55)).alloc (.cells #[.int .i64 x.a, .int .i64 x.b] 23)).alloc (.cells #[.int .i64 y.a, .int .i64 y.b] 23)).alloc (.cells #[.int .i64 0, .int .i64 0] 23)).alloc (.cells #[.int .i64 0, .int .i64 0] 28)).alloc (.cells #[.int .i64 x.a, .int .i64 x.b, .int .i64 y.a, .int .i64 y.b] 23) := ⟨_, rfl⟩
  rw [← hW0] at M0
  rw [show (#[.int .i64 x.a, .int .i64 x.b, .int .i64 y.a, .int .i64 y.b] : Array Value) = [.int .i64 x.a, .int .i64 x.b, .int .i64 y.a, .int .i64 y.b].toArray from rfl] at hW0
  rw [← hW0] at A0
  have HP : Hid (Calls Tryz.prog 53 #[.slice (some ⟨w.heap.size + 1 + 1 + 1 + 1 + 1, 0, none⟩) 2 2] W0 fun e w' => e = .returned (.agg #[.int .i64 (pfl 0 [x, y]).1, .int .i64 (pfl 0 [x, y]).2]) ∧ Below W0.heap.size W0 w') := pairs_two x y _ _ W0 A0.lt (A0.cell 0) (A0.cell 1) (A0.cell 2) (A0.cell 3)
  have HM0 : Hid (Dm w.heap.size k x y Pp.zero w W0) := M0
  have HW0 : Hid (W0 = (((((w.alloc (.cells k.cells 55)).alloc (.cells #[.int .i64 x.a, .int .i64 x.b] 23)).alloc (.cells #[.int .i64 y.a, .int .i64 y.b] 23)).alloc (.cells #[.int .i64 0, .int .i64 0] 23)).alloc (.cells #[.int .i64 0, .int .i64 0] 28)).alloc (.cells #[.int .i64 x.a, .int .i64 x.b, .int .i64 y.a, .int .i64 y.b] 23)) := hW0
  clear M0 A0 hW0
  rcases pfl_two x y with ⟨ho, ho2, hp⟩ | ⟨d, hp⟩
  · rw [hp] at HP
    have HPf : Hid (pfl 0 [x, y] = (0, 0)) := hp
    have HG : Hid (∀ w, Calls Tryz.prog 66 #[k.v, pv x, pv y] w (GreatPost T x y w)) := fun w => rgcd_any T k K x y w hT (okP_nb hT ho) (okP_nb hT ho2)
    clear hp ho ho2 hT K
    obtain ⟨u, o, ft, fm, fc, fs⟩ := k
    go_enter Tryz.func41, Tryz.ntmps41
    go_wp2_with fail
    rw [← HW0.out]
    refine HP.out.mono ?_
    rintro e w1 ⟨rfl, k1⟩
    have M1 := (HM0.out.below k1).alloc (.cells #[.int .i64 0, .int .i64 0] 28)
    have HM1 : Hid (Dm w.heap.size ⟨u, o, ft, fm, fc, fs⟩ x y Pp.zero w (w1.alloc (.cells #[.int .i64 0, .int .i64 0] 28))) := M1
    clear HM0 k1 HP HW0
    have x0 := M1.x.c0
    have x1 := M1.x.c1
    have y0 := M1.y.c0
    have y1 := M1.y.c1
    obtain ⟨r0, r1, r2, r3, r4, r5, r6⟩ := Kt.rd M1.r
    clear M1
    go_wp2_with fail
    refine (HG.out _).mono ?_
    rintro e w2 ⟨z, rfl, hgd, hch, k2⟩
    have HGd : Hid (Gd T x y z) := hgd
    have HCh : Hid (IsCh T z ∨ z = Pp.zero) := hch
    have M3 := HM1.out.below k2
    clear hgd hch HM1 k2 x0 x1 y0 y1 r0 r1 r2 r3 r4 r5 r6
    have q0 := M3.q.c0
    have q1 := M3.q.c1
    have q2 := M3.q.f0
    have q3 := M3.q.f1
    have q4 := M3.q.lt
    have l0 := M3.l.c0
    have l1 := M3.l.c1
    have l2 := M3.l.f0
    have l3 := M3.l.f1
    have l4 := M3.l.lt
    go_wp2_with fail
    have E := M3.fin0 z 0 0
    clear q0 q1 q2 q3 q4 l0 l1 l2 l3 l4 M3
    generalize hWF : World.setCell _ _ _ = WF
    replace E : Df w.heap.size z ⟨0, 0⟩ w WF := hWF ▸ E
    clear hWF
    have e0 := E.q.c0
    have e1 := E.q.c1
    have e4 := E.q.lt
    have g0 := E.l.c0
    have g1 := E.l.c1
    have g4 := E.l.lt
    exact bodyPost_ret (v := .tuple #[pv z, fv (0, 0)]) (by simp [results, Tryz.results41, go_sem, e0, e1, e4, g0, g1, g4]) rfl (GcdOut.good HPf.out HGd.out HCh.out E.k)
  · have HPf : Hid (pfl 0 [x, y] = (3, d)) := hp
    rw [hp] at HP
    clear hp hT K
    obtain ⟨u, o, ft, fm, fc, fs⟩ := k
    go_enter Tryz.func41, Tryz.ntmps41
    go_wp2_with fail
    rw [← HW0.out]
    refine HP.out.mono ?_
    rintro e w1 ⟨rfl, k1⟩
    have M1 := (HM0.out.below k1).alloc (.cells #[.int .i64 3, .int .i64 d] 28)
    have z1 : w.heap.size + 4 < w1.heap.size := (HM0.out.below k1).l.lt
    have HK1 : Hid (Below w.heap.size w (w1.alloc (.cells #[.int .i64 3, .int .i64 d] 28))) := M1.k
    clear HM0 k1 HP HW0
    have P1 := sv_new w1 28 w1.heap.size rfl 3 d
    have q0 := M1.q.c0
    have q1 := M1.q.c1
    have q2 := M1.q.f0
    have q3 := M1.q.f1
    have q4 := M1.q.lt
    have l0 := M1.l.c0
    have l1 := M1.l.c1
    have l2 := M1.l.f0
    have l3 := M1.l.f1
    have l4 := M1.l.lt
    go_wp2_with fail
    refine wp_region_G (fun W => W.cell? ⟨w1.heap.size, 0, none⟩ = some (.int .i64 3) ∧ W.cell? ⟨w1.heap.size, 1, none⟩ = some (.int .i64 d)) 3 (by kernel_rfl) ⟨P1.c0, P1.c1⟩ (fun hHeld => ?_)
    refine wpAnyG_take (i := 0) (v := ?v0x1) rfl (by kernel_rfl) (fun _ _ _ h => h) (Or.inl ⟨by rfl, ?y0x1⟩) hHeld ?r0x1
    case y0x1 => (intro wS hSw; obtain ⟨s1, s2⟩ := hSw; go_simp; try with_reducible rfl)
    try simp only [Act.put, List.setIfInBounds_toArray, List.set_cons_zero, List.set_cons_succ]
    refine wpAnyG_take (i := 1) (v := ?v1x2) rfl (by kernel_rfl) (fun _ _ _ h => h) (Or.inl ⟨by rfl, ?y1x2⟩) hHeld ?r1x2
    case y1x2 => (intro wS hSw; obtain ⟨s1, s2⟩ := hSw; go_simp; try with_reducible rfl)
    try simp only [Act.put, List.setIfInBounds_toArray, List.set_cons_zero, List.set_cons_succ]
    refine wpAnyG_one (i := 2) rfl (by kernel_rfl) (fun K hK => ?_)
    go_simp
    have P2 := (P1.other (.int .i64 0) (.int .i64 0) (show w.heap.size + 3 ≠ w1.heap.size by omega)).drew
    refine hK.out _ _ ⟨P2.c0, P2.c1⟩ ?_
    clear hK K
    try simp only [Act.put, List.setIfInBounds_toArray, List.set_cons_zero, List.set_cons_succ]
    refine wpAnyG_last (i := 3) rfl (by kernel_rfl) (by kernel_rfl) (fun K hK => ?_)
    go_simp
    refine hK.out _ _ ?_
    clear hK K
    try simp only [Act.put, List.setIfInBounds_toArray, List.set_cons_zero, List.set_cons_succ]
    refine wpAnyG_done (by kernel_rfl) ?_ _
    clear hHeld P2
    go_wp2_with fail
    have E := M1.fin Pp.zero 3 d
    generalize hWF : World.drew _ = WF
    replace E : Df w.heap.size Pp.zero ⟨3, d⟩ w WF := hWF ▸ E
    clear hWF
    have e0 := E.q.c0
    have e1 := E.q.c1
    have e4 := E.q.lt
    have g0 := E.l.c0
    have g1 := E.l.c1
    have g4 := E.l.lt
    exact bodyPost_ret (v := .tuple #[pv Pp.zero, fv (3, d)]) (by simp [results, Tryz.results41, go_sem, e0, e1, e4, g0, g1, g4]) rfl (GcdOut.bad HPf.out E.k)

end Go.Proofs.YtogdggdaaiajnadGreatDoor
end

section
/- Package ring: Div, with its faults. -/
set_option linter.unusedSimpArgs false
set_option linter.unusedVariables false
set_option maxRecDepth 100000
namespace Go.Proofs.YtogdggdaaiajnadGreatDoor
open Go.RowKit

/-- The memory of Div: that of a division, and the fault's cells. -/
structure Dn6 (b : Nat) (k : Kd) (x y : Pp) (w W : World) : Prop where
  m : Dm b k x y Pp.zero w W
  f : Sv (b + 5) 0 0 W
theorem Dn6.below {b : Nat} {k : Kd} {x y : Pp} {w W W' : World} (h : Dn6 b k x y w W) (c : Below W.heap.size W W') : Dn6 b k x y w W' := ⟨h.m.below c, h.f.below c⟩
theorem Dn6.alloc {b : Nat} {k : Kd} {x y : Pp} {w W : World} (h : Dn6 b k x y w W) (o : Obj) : Dn6 b k x y w (W.alloc o) := h.below (Below.alloc (Below.refl _ _) (Nat.le_refl _) _)
/-- How it ends. -/
structure De (b : Nat) (q l : Pp) (f : Int × Int) (w W : World) : Prop where
  q : Sv (b + 1 + 1 + 1) q.a q.b W
  l : Sv (b + 1 + 1 + 1 + 1) l.a l.b W
  f : Sv (b + 1 + 1 + 1 + 1 + 1) f.1 f.2 W
  k : Below b w W
theorem De.drew {b : Nat} {q l : Pp} {f : Int × Int} {w W : World} (h : De b q l f w W) : De b q l f w W.drew := ⟨h.q.drew, h.l.drew, h.f.drew, h.k.drew⟩
theorem De.set {b : Nat} {q l : Pp} {f : Int × Int} {w W : World} (h : De b q l f w W) (q' l' : Pp) (f1 f2 : Int) : De b q' l' (f1, f2) w ((((((W.setCell ⟨b + 1 + 1 + 1, 0, none⟩ (.int .i64 q'.a)).setCell ⟨b + 1 + 1 + 1, 1, none⟩ (.int .i64 q'.b)).setCell ⟨b + 1 + 1 + 1 + 1, 0, none⟩ (.int .i64 l'.a)).setCell ⟨b + 1 + 1 + 1 + 1, 1, none⟩ (.int .i64 l'.b)).setCell ⟨b + 1 + 1 + 1 + 1 + 1, 0, none⟩ (.int .i64 f1)).setCell ⟨b + 1 + 1 + 1 + 1 + 1, 1, none⟩ (.int .i64 f2)) :=
  ⟨((h.q.set _ _).other _ _ (by omega)).other _ _ (by omega), ((h.l.other _ _ (by omega)).set _ _).other _ _ (by omega), ((h.f.other _ _ (by omega)).other _ _ (by omega)).set _ _, (((((h.k.setCell (by show b ≤ b + 3; omega) _).setCell (by show b ≤ b + 3; omega) _).setCell (by show b ≤ b + 4; omega) _).setCell (by show b ≤ b + 4; omega) _).setCell (by show b ≤ b + 5; omega) _).setCell (by show b ≤ b + 5; omega) _⟩
theorem De.set2 {b : Nat} {q l : Pp} {f : Int × Int} {w W : World} (h : De b q l f w W) (q' l' : Pp) : De b q' l' f w ((((W.setCell ⟨b + 1 + 1 + 1, 0, none⟩ (.int .i64 q'.a)).setCell ⟨b + 1 + 1 + 1, 1, none⟩ (.int .i64 q'.b)).setCell ⟨b + 1 + 1 + 1 + 1, 0, none⟩ (.int .i64 l'.a)).setCell ⟨b + 1 + 1 + 1 + 1, 1, none⟩ (.int .i64 l'.b)) :=
  ⟨((h.q.set _ _).other _ _ (by omega)), ((h.l.other _ _ (by omega)).set _ _), ((h.f.other _ _ (by omega)).other _ _ (by omega)), (((h.k.setCell (by show b ≤ b + 3; omega) _).setCell (by show b ≤ b + 3; omega) _).setCell (by show b ≤ b + 4; omega) _).setCell (by show b ≤ b + 4; omega) _⟩
theorem Dn6.de {b : Nat} {k : Kd} {x y : Pp} {w W : World} (h : Dn6 b k x y w W) : De b Pp.zero Pp.zero (0, 0) w W := ⟨h.m.q, h.m.l, h.f, h.m.k⟩

theorem divF_bad (T : Int) (x y : Pp) (d : Int) (h : pfl 0 [x, y] = (3, d)) : divF x y = (3, d) ∧ divQ T x y = Pp.zero ∧ divR T x y = Pp.zero := by
  have h1 : divF x y = (3, d) := by unfold divF; rw [h, if_pos (by simp)]
  exact ⟨h1, by unfold divQ; rw [h1, if_neg (by simp)], by unfold divR; rw [h1, if_neg (by simp)]⟩
theorem divF_zero (T : Int) (x y : Pp) (h : pfl 0 [x, y] = (0, 0)) (h0 : y = Pp.zero) : divF x y = (4, 1) ∧ divQ T x y = Pp.zero ∧ divR T x y = Pp.zero := by
  have h1 : divF x y = (4, 1) := by unfold divF; rw [h, if_neg (by simp), if_pos h0]
  exact ⟨h1, by unfold divQ; rw [h1, if_neg (by simp)], by unfold divR; rw [h1, if_neg (by simp)]⟩
theorem divF_ok (T : Int) (x y : Pp) (h : pfl 0 [x, y] = (0, 0)) (h0 : y ≠ Pp.zero) : divF x y = (0, 0) ∧ divQ T x y = quo T x y ∧ divR T x y = x.sub ((quo T x y).mul T y) := by
  have h1 : divF x y = (0, 0) := by unfold divF; rw [h, if_neg (by simp), if_neg h0]
  exact ⟨h1, by unfold divQ; rw [h1, if_pos rfl], by unfold divR; rw [h1, if_pos rfl]⟩

set_option maxHeartbeats 1000000 in
theorem rDiv_any (T : Int) (k : Kd) (K : KdIs T k) (x y : Pp) (w : World) (hT : TT T) :
    Calls Tryz.prog 40 #[k.v, pv x, pv y] w fun e w' => e = .returned (.tuple #[pv (divQ T x y), pv (divR T x y), fv (divF x y)]) ∧ Below w.heap.size w w' := by
  have HK : Hid (KdIs T k) := K
  have M0 : Dn6 w.heap.size k x y w (((((((w.alloc (.cells k.cells 55)).alloc (.cells #[.int .i64 x.a, .int .i64 x.b] 23)).alloc (.cells #[.int .i64 y.a, .int .i64 y.b] 23)).alloc (.cells #[.int .i64 0, .int .i64 0] 23)).alloc (.cells #[.int .i64 0, .int .i64 0] 23)).alloc (.cells #[.int .i64 0, .int .i64 0] 28)).alloc (.cells #[.int .i64 x.a, .int .i64 x.b, .int .i64 y.a, .int .i64 y.b] 23)) := (show Dn6 w.heap.size k x y w ((((((w.alloc (.cells k.cells 55)).alloc (.cells #[.int .i64 x.a, .int .i64 x.b] 23)).alloc (.cells #[.int .i64 y.a, .int .i64 y.b] 23)).alloc (.cells #[.int .i64 0, .int .i64 0] 23)).alloc (.cells #[.int .i64 0, .int .i64 0] 23)).alloc (.cells #[.int .i64 0, .int .i64 0] 28)) from ⟨(dm_newT w k x y 23 23).alloc _, sv_new _ _ _ (by simp) _ _⟩).alloc _
  have A0 := cl_new ((((((w.alloc (.cells k.cells 55)).alloc (.cells #[.int .i64 x.a, .int .i64 x.b] 23)).alloc (.cells #[.int .i64 y.a, .int .i64 y.b] 23)).alloc (.cells #[.int .i64 0, .int .i64 0] 23)).alloc (.cells #[.int .i64 0, .int .i64 0] 23)).alloc (.cells #[.int .i64 0, .int .i64 0] 28)) [.int .i64 x.a, .int .i64 x.b, .int .i64 y.a, .int .i64 y.b] 23 (w.heap.size + 1 + 1 + 1 + 1 + 1 + 1) (by simp)
  obtain ⟨W0, hW0⟩ : ∃ W0, W0 = ((((((w.alloc (.cells k.cells 55)).alloc (.cells #[.int .i64 x.a, .int .i64 x.b] 23)).alloc (.cells #[.int .i64 y.a, .int .i64 y.b] 23)).alloc (.cells #[.int .i64 0, .int .i64 0] 23)).alloc (.cells #[.int .i64 0, .int .i64 0] 23)).alloc (.cells #[.int .i64 0, .int .i64 0] 28)).alloc (.cells #[.int .i64 x.a, .int .i64 x.b, .int .i64 y.a, .int .i64 y.b] 23) := ⟨_, rfl⟩
  rw [← hW0] at M0
  rw [show (#[.int .i64 x.a, .int .i64 x.b, .int .i64 y.a, .int .i64 y.b] : Array Value) = [.int .i64 x.a, .int .i64 x.b, .int .i64 y.a, .int .i64 y.b].toArray from rfl] at hW0
  rw [← hW0] at A0
  have HP : Hid (Calls Tryz.prog 53 #[.slice (some ⟨w.heap.size + 1 + 1 + 1 + 1 + 1 + 1, 0, none⟩) 2 2] W0 fun e w' => e = .returned (.agg #[.int .i64 (pfl 0 [x, y]).1, .int .i64 (pfl 0 [x, y]).2]) ∧ Below W0.heap.size W0 w') := pairs_two x y _ _ W0 A0.lt (A0.cell 0) (A0.cell 1) (A0.cell 2) (A0.cell 3)
  have HM0 : Hid (Dn6 w.heap.size k x y w W0) := M0
  have HW0 : Hid (W0 = ((((((w.alloc (.cells k.cells 55)).alloc (.cells #[.int .i64 x.a, .int .i64 x.b] 23)).alloc (.cells #[.int .i64 y.a, .int .i64 y.b] 23)).alloc (.cells #[.int .i64 0, .int .i64 0] 23)).alloc (.cells #[.int .i64 0, .int .i64 0] 23)).alloc (.cells #[.int .i64 0, .int .i64 0] 28)).alloc (.cells #[.int .i64 x.a, .int .i64 x.b, .int .i64 y.a, .int .i64 y.b] 23)) := hW0
  have HZ : Hid (∀ w, Calls Tryz.prog 57 #[pv y] w fun e w' => e = .returned (.bool (decide (y = Pp.zero))) ∧ Below w.heap.size w w') := fun w => isZero_any y w
  clear M0 A0 hW0
  rcases pfl_two x y with ⟨ho, ho2, hp⟩ | ⟨d, hp⟩
  · rw [hp] at HP
    by_cases h0 : y = Pp.zero
    · obtain ⟨e1, e2, e3⟩ := divF_zero T x y hp h0
      rw [e1, e2, e3]
      rw [decide_eq_true h0] at HZ
      clear e1 e2 e3 h0 hp ho ho2 hT K
      obtain ⟨u, o, ft, fm, fc, fs⟩ := k
      go_enter Tryz.func40, Tryz.ntmps40
      go_wp2_with fail
      rw [← HW0.out]
      refine HP.out.mono ?_
      rintro e w1 ⟨rfl, k1⟩
      have M1 := (HM0.out.below k1).alloc (.cells #[.int .i64 0, .int .i64 0] 28)
      have HM1 : Hid (Dn6 w.heap.size ⟨u, o, ft, fm, fc, fs⟩ x y w (w1.alloc (.cells #[.int .i64 0, .int .i64 0] 28))) := M1
      clear HM0 k1 HP HW0
      have y0 := M1.m.y.c0
      have y1 := M1.m.y.c1
      clear M1
      go_wp2_with fail
      refine (HZ.out _).mono ?_
      rintro e w2 ⟨rfl, k2⟩
      have M3 := HM1.out.below k2
      clear HM1 k2 y0 y1
      have q0 := M3.m.q.c0
      have q1 := M3.m.q.c1
      have q2 := M3.m.q.f0
      have q3 := M3.m.q.f1
      have q4 := M3.m.q.lt
      have l0 := M3.m.l.c0
      have l1 := M3.m.l.c1
      have l2 := M3.m.l.f0
      have l3 := M3.m.l.f1
      have l4 := M3.m.l.lt
      have f0 := M3.f.c0
      have f1 := M3.f.c1
      have f2 := M3.f.f0
      have f3 := M3.f.f1
      have f4 := M3.f.lt
      go_wp2_with fail
      have E := M3.de.set Pp.zero Pp.zero 4 1
      clear q0 q1 q2 q3 q4 l0 l1 l2 l3 l4 f0 f1 f2 f3 f4 M3
      generalize hWF : World.setCell _ _ _ = WF
      replace E : De w.heap.size Pp.zero Pp.zero (4, 1) w WF := hWF ▸ E
      clear hWF
      have e0 := E.q.c0
      have e1 := E.q.c1
      have e4 := E.q.lt
      have g0 := E.l.c0
      have g1 := E.l.c1
      have g4 := E.l.lt
      have h0 := E.f.c0
      have h1 := E.f.c1
      have h4 := E.f.lt
      exact bodyPost_ret (v := .tuple #[pv Pp.zero, pv Pp.zero, fv (4, 1)]) (by simp [results, Tryz.results40, go_sem, e0, e1, e4, g0, g1, g4, h0, h1, h4]) rfl ⟨rfl, E.k⟩
    · obtain ⟨e1, e2, e3⟩ := divF_ok T x y hp h0
      rw [e1, e2, e3]
      rw [decide_eq_false h0] at HZ
      have HD : Hid (∀ w, Calls Tryz.prog 65 #[k.v, pv x, pv y] w fun e w' => e = .returned (.tuple #[pv (quo T x y), pv (x.sub ((quo T x y).mul T y))]) ∧ Below w.heap.size w w') := fun w => rdiv_any T k K x y w hT (okP_nb hT ho) (okP_nb hT ho2) h0
      obtain ⟨R, hR⟩ : ∃ R, R = x.sub ((quo T x y).mul T y) := ⟨_, rfl⟩
      rw [← hR] at HD ⊢
      obtain ⟨q, hq⟩ : ∃ q, q = quo T x y := ⟨_, rfl⟩
      rw [← hq] at HD ⊢
      clear e1 e2 e3 h0 hp ho ho2 hT K hR hq
      obtain ⟨u, o, ft, fm, fc, fs⟩ := k
      go_enter Tryz.func40, Tryz.ntmps40
      go_wp2_with fail
      rw [← HW0.out]
      refine HP.out.mono ?_
      rintro e w1 ⟨rfl, k1⟩
      have M1 := (HM0.out.below k1).alloc (.cells #[.int .i64 0, .int .i64 0] 28)
      have HM1 : Hid (Dn6 w.heap.size ⟨u, o, ft, fm, fc, fs⟩ x y w (w1.alloc (.cells #[.int .i64 0, .int .i64 0] 28))) := M1
      clear HM0 k1 HP HW0
      have y0 := M1.m.y.c0
      have y1 := M1.m.y.c1
      clear M1
      go_wp2_with fail
      refine (HZ.out _).mono ?_
      rintro e w2 ⟨rfl, k2⟩
      have M2 := HM1.out.below k2
      have HM2 : Hid (Dn6 w.heap.size ⟨u, o, ft, fm, fc, fs⟩ x y w w2) := M2
      clear HM1 k2 y0 y1
      have x0 := M2.m.x.c0
      have x1 := M2.m.x.c1
      have y0 := M2.m.y.c0
      have y1 := M2.m.y.c1
      obtain ⟨r0, r1, r2, r3, r4, r5, r6⟩ := Kt.rd M2.m.r
      clear M2
      go_wp2_with fail
      refine (HD.out _).mono ?_
      rintro e w3 ⟨rfl, k3⟩
      have M3 := HM2.out.below k3
      clear HM2 k3 x0 x1 y0 y1 r0 r1 r2 r3 r4 r5 r6
      have q0 := M3.m.q.c0
      have q1 := M3.m.q.c1
      have q2 := M3.m.q.f0
      have q3 := M3.m.q.f1
      have q4 := M3.m.q.lt
      have l0 := M3.m.l.c0
      have l1 := M3.m.l.c1
      have l2 := M3.m.l.f0
      have l3 := M3.m.l.f1
      have l4 := M3.m.l.lt
      have f0 := M3.f.c0
      have f1 := M3.f.c1
      have f2 := M3.f.f0
      have f3 := M3.f.f1
      have f4 := M3.f.lt
      go_wp2_with fail
      have D4 := M3.de.set2 q R
      clear q0 q1 q2 q3 q4 l0 l1 l2 l3 l4 f0 f1 f2 f3 f4 M3
      obtain ⟨W4, hW4⟩ : ∃ W4, W4 = ((((w3.setCell ⟨w.heap.size + 1 + 1 + 1, 0, none⟩ (.int .i64 q.a)).setCell ⟨w.heap.size + 1 + 1 + 1, 1, none⟩ (.int .i64 q.b)).setCell ⟨w.heap.size + 1 + 1 + 1 + 1, 0, none⟩ (.int .i64 R.a)).setCell ⟨w.heap.size + 1 + 1 + 1 + 1, 1, none⟩ (.int .i64 R.b)) := ⟨_, rfl⟩
      rw [← hW4] at D4 ⊢
      clear hW4
      have q0 := D4.q.c0
      have q1 := D4.q.c1
      have q2 := D4.q.f0
      have q3 := D4.q.f1
      have q4 := D4.q.lt
      have l0 := D4.l.c0
      have l1 := D4.l.c1
      have l2 := D4.l.f0
      have l3 := D4.l.f1
      have l4 := D4.l.lt
      have f0 := D4.f.c0
      have f1 := D4.f.c1
      have f2 := D4.f.f0
      have f3 := D4.f.f1
      have f4 := D4.f.lt
      refine wp_region_G (fun W => Rp (w.heap.size + 1 + 1 + 1) q W ∧ Rp (w.heap.size + 1 + 1 + 1 + 1) R W) 5 (by kernel_rfl) ⟨⟨q0, q1⟩, l0, l1⟩ (fun hHeld => ?_)
      refine wpAnyG_take (i := 0) (v := ?v0x1) rfl (by kernel_rfl) (fun _ _ _ h => h) (Or.inl ⟨by rfl, ?y0x1⟩) hHeld ?r0x1
      case y0x1 => (intro wS hSw; obtain ⟨⟨s1, s2⟩, s3, s4⟩ := hSw; go_simp; try with_reducible rfl)
      try simp only [Act.put, List.setIfInBounds_toArray, List.set_cons_zero, List.set_cons_succ]
      refine wpAnyG_take (i := 1) (v := ?v1x2) rfl (by kernel_rfl) (fun _ _ _ h => h) (Or.inl ⟨by rfl, ?y1x2⟩) hHeld ?r1x2
      case y1x2 => (intro wS hSw; obtain ⟨⟨s1, s2⟩, s3, s4⟩ := hSw; go_simp; try with_reducible rfl)
      try simp only [Act.put, List.setIfInBounds_toArray, List.set_cons_zero, List.set_cons_succ]
      refine wpAnyG_take (i := 2) (v := ?v2x3) rfl (by kernel_rfl) (fun _ _ _ h => h) (Or.inl ⟨by rfl, ?y2x3⟩) hHeld ?r2x3
      case y2x3 => (intro wS hSw; obtain ⟨⟨s1, s2⟩, s3, s4⟩ := hSw; go_simp; try with_reducible rfl)
      try simp only [Act.put, List.setIfInBounds_toArray, List.set_cons_zero, List.set_cons_succ]
      refine wpAnyG_one (i := 3) rfl (by kernel_rfl) (fun K hK => ?_)
      go_simp
      have Q5 := (D4.q.set q.a q.b).drew
      have L5 := (D4.l.other (.int .i64 q.a) (.int .i64 q.b) (show w.heap.size + 1 + 1 + 1 ≠ w.heap.size + 1 + 1 + 1 + 1 by omega)).drew
      refine hK.out _ _ ⟨⟨Q5.c0, Q5.c1⟩, L5.c0, L5.c1⟩ ?_
      clear hK K
      try simp only [Act.put, List.setIfInBounds_toArray, List.set_cons_zero, List.set_cons_succ]
      refine wpAnyG_one (i := 4) rfl (by kernel_rfl) (fun K hK => ?_)
      go_simp
      have D6 := (D4.set2 q R).drew
      refine hK.out _ _ ⟨⟨D6.q.c0, D6.q.c1⟩, D6.l.c0, D6.l.c1⟩ ?_
      clear hK K
      try simp only [Act.put, List.setIfInBounds_toArray, List.set_cons_zero, List.set_cons_succ]
      refine wpAnyG_last (i := 5) rfl (by kernel_rfl) (by kernel_rfl) (fun K hK => ?_)
      go_simp
      refine hK.out _ _ ?_
      clear hK K
      try simp only [Act.put, List.setIfInBounds_toArray, List.set_cons_zero, List.set_cons_succ]
      refine wpAnyG_done (by kernel_rfl) ?_ _
      have E := (D4.set q R 0 0).drew
      clear hHeld Q5 L5 D6 D4 q0 q1 q2 q3 q4 l0 l1 l2 l3 l4 f0 f1 f2 f3 f4
      go_wp2_with fail
      generalize hWF : World.drew _ = WF
      replace E : De w.heap.size q R (0, 0) w WF := hWF ▸ E
      clear hWF
      have e0 := E.q.c0
      have e1 := E.q.c1
      have e4 := E.q.lt
      have g0 := E.l.c0
      have g1 := E.l.c1
      have g4 := E.l.lt
      have h0 := E.f.c0
      have h1 := E.f.c1
      have h4 := E.f.lt
      exact bodyPost_ret (v := .tuple #[pv q, pv R, fv (0, 0)]) (by simp [results, Tryz.results40, go_sem, e0, e1, e4, g0, g1, g4, h0, h1, h4]) rfl ⟨rfl, E.k⟩
  · obtain ⟨e1, e2, e3⟩ := divF_bad T x y d hp
    rw [e1, e2, e3]
    rw [hp] at HP
    clear e1 e2 e3 hp hT K
    obtain ⟨u, o, ft, fm, fc, fs⟩ := k
    go_enter Tryz.func40, Tryz.ntmps40
    go_wp2_with fail
    rw [← HW0.out]
    refine HP.out.mono ?_
    rintro e w1 ⟨rfl, k1⟩
    have M3 := (HM0.out.below k1).alloc (.cells #[.int .i64 3, .int .i64 d] 28)
    have z1 : w.heap.size + 5 < w1.heap.size := (HM0.out.below k1).f.lt
    have P1 := sv_new w1 28 w1.heap.size rfl 3 d
    clear HM0 k1 HP HW0
    have q0 := M3.m.q.c0
    have q1 := M3.m.q.c1
    have q2 := M3.m.q.f0
    have q3 := M3.m.q.f1
    have q4 := M3.m.q.lt
    have l0 := M3.m.l.c0
    have l1 := M3.m.l.c1
    have l2 := M3.m.l.f0
    have l3 := M3.m.l.f1
    have l4 := M3.m.l.lt
    have f0 := M3.f.c0
    have f1 := M3.f.c1
    have f2 := M3.f.f0
    have f3 := M3.f.f1
    have f4 := M3.f.lt
    go_wp2_with fail
    refine wp_region_G (fun W => W.cell? ⟨w1.heap.size, 0, none⟩ = some (.int .i64 3) ∧ W.cell? ⟨w1.heap.size, 1, none⟩ = some (.int .i64 d)) 5 (by kernel_rfl) ⟨P1.c0, P1.c1⟩ (fun hHeld => ?_)
    refine wpAnyG_take (i := 0) (v := ?v0x4) rfl (by kernel_rfl) (fun _ _ _ h => h) (Or.inl ⟨by rfl, ?y0x4⟩) hHeld ?r0x4
    case y0x4 => (intro wS hSw; obtain ⟨s1, s2⟩ := hSw; go_simp; try with_reducible rfl)
    try simp only [Act.put, List.setIfInBounds_toArray, List.set_cons_zero, List.set_cons_succ]
    refine wpAnyG_take (i := 1) (v := ?v1x5) rfl (by kernel_rfl) (fun _ _ _ h => h) (Or.inl ⟨by rfl, ?y1x5⟩) hHeld ?r1x5
    case y1x5 => (intro wS hSw; obtain ⟨s1, s2⟩ := hSw; go_simp; try with_reducible rfl)
    try simp only [Act.put, List.setIfInBounds_toArray, List.set_cons_zero, List.set_cons_succ]
    refine wpAnyG_take (i := 2) (v := ?v2x6) rfl (by kernel_rfl) (fun _ _ _ h => h) (Or.inl ⟨by rfl, ?y2x6⟩) hHeld ?r2x6
    case y2x6 => (intro wS hSw; obtain ⟨s1, s2⟩ := hSw; go_simp; try with_reducible rfl)
    try simp only [Act.put, List.setIfInBounds_toArray, List.set_cons_zero, List.set_cons_succ]
    refine wpAnyG_one (i := 3) rfl (by kernel_rfl) (fun K hK => ?_)
    go_simp
    have P2 := P1.other (.int .i64 0) (.int .i64 0) (show w.heap.size + 1 + 1 + 1 ≠ w1.heap.size by omega)
    refine hK.out _ _ ⟨P2.drew.c0, P2.drew.c1⟩ ?_
    clear hK K
    try simp only [Act.put, List.setIfInBounds_toArray, List.set_cons_zero, List.set_cons_succ]
    refine wpAnyG_one (i := 4) rfl (by kernel_rfl) (fun K hK => ?_)
    go_simp
    have P3 := (P2.other (.int .i64 0) (.int .i64 0) (show w.heap.size + 1 + 1 + 1 + 1 ≠ w1.heap.size by omega)).drew
    refine hK.out _ _ ⟨P3.c0, P3.c1⟩ ?_
    clear hK K
    try simp only [Act.put, List.setIfInBounds_toArray, List.set_cons_zero, List.set_cons_succ]
    refine wpAnyG_last (i := 5) rfl (by kernel_rfl) (by kernel_rfl) (fun K hK => ?_)
    go_simp
    refine hK.out _ _ ?_
    clear hK K
    try simp only [Act.put, List.setIfInBounds_toArray, List.set_cons_zero, List.set_cons_succ]
    refine wpAnyG_done (by kernel_rfl) ?_ _
    have E := (M3.de.set Pp.zero Pp.zero 3 d).drew
    clear hHeld P1 P2 P3 M3 q0 q1 q2 q3 q4 l0 l1 l2 l3 l4 f0 f1 f2 f3 f4
    go_wp2_with fail
    generalize hWF : World.drew _ = WF
    replace E : De w.heap.size Pp.zero Pp.zero (3, d) w WF := hWF ▸ E
    clear hWF
    have e0 := E.q.c0
    have e1 := E.q.c1
    have e4 := E.q.lt
    have g0 := E.l.c0
    have g1 := E.l.c1
    have g4 := E.l.lt
    have h0 := E.f.c0
    have h1 := E.f.c1
    have h4 := E.f.lt
    exact bodyPost_ret (v := .tuple #[pv Pp.zero, pv Pp.zero, fv (3, d)]) (by simp [results, Tryz.results40, go_sem, e0, e1, e4, g0, g1, g4, h0, h1, h4]) rfl ⟨rfl, E.k⟩

end Go.Proofs.YtogdggdaaiajnadGreatDoor
end
