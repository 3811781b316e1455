/- Package ring: chief, gcd. -/
import Derived.Test.YtoionlnbodfhlacGreatDoorGsC
import Derived.Deep.LoopGhost
set_option linter.unusedSimpArgs false
set_option linter.unusedVariables false
set_option maxRecDepth 100000
namespace Go.Proofs.YtoionlnbodfhlacGreatDoor
open Go.RowKit

/-- The memory of chief's walk. -/
structure Cm (b : Nat) (k : Kd) (x : Pp) (w W : World) : Prop where
  r : Kt b k W
  x : Sv (b + 1) x.a x.b W
  o : Sv (b + 2) 0 0 W
  k : Below b w W
theorem Cm.below {b : Nat} {k : Kd} {x : Pp} {w W W' : World} (h : Cm b k x w W) (c : Below W.heap.size W W') : Cm b k x w W' :=
  ⟨h.r.below c, h.x.below c, h.o.below c, h.k.trans (c.mono (by have := h.o.lt; omega))⟩
theorem Cm.drew {b : Nat} {k : Kd} {x : Pp} {w W : World} (h : Cm b k x w W) : Cm b k x w W.drew := h.below ((Below.refl _ _).drew)
theorem Cm.setx {b : Nat} {k : Kd} {x : Pp} {w W : World} (h : Cm b k x w W) (y : Pp) : Cm b k y w ((W.setCell ⟨b + 1, 0, none⟩ (.int .i64 y.a)).setCell ⟨b + 1, 1, none⟩ (.int .i64 y.b)) :=
  ⟨(h.r.other (by show b ≠ b + 1; omega) _).other (by show b ≠ b + 1; omega) _, h.x.set _ _, h.o.other _ _ (by omega), (h.k.setCell (by show b ≤ b + 1; omega) _).setCell (by show b ≤ b + 1; omega) _⟩
theorem cm_new (w : World) (k : Kd) (x : Pp) : Cm w.heap.size k x w (((w.alloc (.cells k.cells 84)).alloc (.cells #[.int .i64 x.a, .int .i64 x.b] 44)).alloc (.cells #[.int .i64 0, .int .i64 0] 44)) :=
  ⟨((Cl.new k.list 84 w).alloc _).alloc _, sv_alloc (sv_new _ _ _ (by simp) _ _) _, sv_new _ _ _ (by simp) _ _, below3 _ _ _ _⟩

/-- The state of chief's walk. -/
def ChS (T : Int) (b : Nat) (k : Kd) (x : Pp) (w : World) (g : Nat) (W : World) (X : Pp) : Prop :=
  ∃ i, X = rotN T x i ∧ i < unitsN T ∧ g = unitsN T - i ∧ (∀ j, j < i → ¬ IsCh T (rotN T x j)) ∧ Cm b k X w W

theorem ChS.next {T : Int} (hT : TT T) {b : Nat} {k : Kd} {x : Pp} {w : World} {g : Nat} {W W' : World} {X Y : Pp} (h : ChS T b k x w g W X) (h0 : X ≠ Pp.zero) (hc : ¬ IsCh T X) (hY : Y = X.mul T (unitOf T)) (m : Cm b k Y w W') :
    ChS T b k x w (g - 1) W' Y ∧ g - 1 < g := by
  obtain ⟨i, hX, hi, hg, hn, _⟩ := h
  have hn' : ∀ j, j < i + 1 → ¬ IsCh T (rotN T x j) := fun j hj => by
    by_cases e : j = i
    · rw [e, ← hX]; exact hc
    · exact hn j (by omega)
  have hlt : i + 1 < unitsN T := by
    rcases Nat.lt_or_ge (i + 1) (unitsN T) with h | h
    · exact h
    · exfalso
      have hx := rot_chief hT x (fun j hj => hn' j (by omega))
      apply h0
      apply norm_zero T hT
      rw [hX, rot_norm hT, hx]
      simp [Pp.norm, Pp.zero]
  exact ⟨⟨i + 1, by rw [hY, hX]; rfl, hlt, by omega, hn', m⟩, by omega⟩
theorem ChS.post {T : Int} (hT : TT T) {b : Nat} {k : Kd} {x : Pp} {w : World} {g : Nat} {W : World} {X : Pp} (h : ChS T b k x w g W X) : Dv T x X ∧ Dv T X x := by
  obtain ⟨i, hX, _⟩ := h
  rw [hX]; exact rot_dv hT x i
theorem ChS.zero {T : Int} (hT : TT T) {b : Nat} {k : Kd} {x : Pp} {w : World} {g : Nat} {W : World} (h : ChS T b k x w g W Pp.zero) : x = Pp.zero := by
  obtain ⟨i, hX, _⟩ := h
  apply norm_zero T hT
  rw [← rot_norm hT x i, ← hX]
  simp [Pp.norm, Pp.zero]
theorem ChS.norm {T : Int} (hT : TT T) {b : Nat} {k : Kd} {x : Pp} {w : World} {g : Nat} {W : World} {X : Pp} (h : ChS T b k x w g W X) (hx : Nb T x) : Nb T X := by
  obtain ⟨i, hX, _⟩ := h
  rw [hX]; unfold Nb; rw [rot_norm hT]; exact hx

set_option maxHeartbeats 1000000 in
theorem rchief_any (T : Int) (k : Kd) (K : KdIs T k) (x : Pp) (w : World) (hT : TT T) (hx : Nb T x) :
    Calls Tryz.prog 136 #[k.v, pv x] w (ChiefPost T x w) := by
  have HX : Hid (Nb T x) := hx
  have HT : Hid (TT T) := hT
  have et := K.et
  have ec := K.ec
  have HK : Hid (KdIs T k) := K
  have M0 := cm_new w k x
  clear hx hT K
  obtain ⟨u, o, ft, fm, fc, fs⟩ := k
  go_enter Tryz.func136, Tryz.ntmps136
  go_wp2
  go_loopg [14] (unitsN T) (fun g _ wx => ∃ X : Pp, Hid (ChS T w.heap.size ⟨u, o, ft, fm, fc, fs⟩ x w g wx X))
  case atStart => exact ⟨x, 0, rfl, by unfold unitsN; split <;> decide, rfl, fun j h => absurd h (Nat.not_lt_zero _), M0⟩
  case round =>
    clear M0
    obtain ⟨X, HR⟩ := hrel
    have M : Cm w.heap.size ⟨u, o, ft, fm, fc, fs⟩ X w wr := HR.out.elim (fun i h => h.2.2.2.2)
    have HM : Hid (Cm w.heap.size ⟨u, o, ft, fm, fc, fs⟩ X w wr) := M
    have HZ : Hid (∀ w, Calls Tryz.prog 95 #[pv X] w fun e w' => e = .returned (.bool (decide (X = Pp.zero))) ∧ Below w.heap.size w w') := fun w => isZero_any X w
    have x0 := M.x.c0
    have x1 := M.x.c1
    clear M
    by_cases hX : X = Pp.zero
    · rw [decide_eq_true hX] at HZ
      have HX0 : Hid (X = Pp.zero) := hX
      clear hX
      go_wp2_with fail
      refine (HZ.out _).mono ?_
      rintro e w1 ⟨rfl, k1⟩
      have M1 := HM.out.below k1
      have HK1 : Hid (Below w.heap.size w w1) := M1.k
      clear x0 x1 k1 HM
      have x0 := M1.x.c0
      have x1 := M1.x.c1
      have o0 := M1.o.c0
      have o1 := M1.o.c1
      have o2 := M1.o.f0
      have o3 := M1.o.f1
      have o4 := M1.o.lt
      clear M1
      go_wp2
      refine bodyPost_ret (v := pv X) (by simp [results, Tryz.results136, go_sem, o0, o1, o4]) rfl ⟨X, rfl, (HR.out.post HT.out).1, (HR.out.post HT.out).2, .inr ⟨?_, HX0.out⟩, ?_⟩
      · have h := HR.out
        rw [HX0.out] at h
        exact h.zero HT.out
      · exact (HK1.out.setCell (by simp <;> omega) _).setCell (by simp <;> omega) _
    · rw [decide_eq_false hX] at HZ
      have HX0 : Hid (X ≠ Pp.zero) := hX
      clear hX
      have HC : Hid (∀ w, Calls Tryz.prog fc #[pv X] w fun e w' => e = .returned (.bool (decide (IsCh T X))) ∧ Below w.heap.size w w') := fun w => HK.out.chief X w
      by_cases hc : IsCh T X
      · rw [decide_eq_true hc] at HC
        have HCh : Hid (IsCh T X) := hc
        clear hc
        go_wp2_with fail
        refine (HZ.out _).mono ?_
        rintro e w1 ⟨rfl, k1⟩
        have M1 := HM.out.below k1
        have HM1 : Hid (Cm w.heap.size ⟨u, o, ft, fm, fc, fs⟩ X w w1) := M1
        clear x0 x1 k1 HM
        have x0 := M1.x.c0
        have x1 := M1.x.c1
        have r5 := (Kt.rd M1.r).2.2.2.2.2.1
        clear M1
        go_wp2_with fail
        refine (HC.out _).mono ?_
        rintro e w2 ⟨rfl, k2⟩
        have M1 := HM1.out.below k2
        have HK1 : Hid (Below w.heap.size w w2) := M1.k
        clear x0 x1 k2 HM1 r5
        have x0 := M1.x.c0
        have x1 := M1.x.c1
        have o0 := M1.o.c0
        have o1 := M1.o.c1
        have o2 := M1.o.f0
        have o3 := M1.o.f1
        have o4 := M1.o.lt
        clear M1
        go_wp2
        refine bodyPost_ret (v := pv X) (by simp [results, Tryz.results136, go_sem, o0, o1, o4]) rfl ⟨X, rfl, (HR.out.post HT.out).1, (HR.out.post HT.out).2, .inl HCh.out, ?_⟩
        exact (HK1.out.setCell (by simp <;> omega) _).setCell (by simp <;> omega) _
      · rw [decide_eq_false hc] at HC
        have HCh : Hid (¬ IsCh T X) := hc
        clear hc
        obtain ⟨Y, hY⟩ : ∃ Y, Y = X.mul T u := ⟨_, rfl⟩
        have hu : u = unitOf T := HK.out.unit
        have HY : Hid (Y = X.mul T (unitOf T)) := by rw [← hu]; exact hY
        have HTm : Hid (∀ w, Calls Tryz.prog ft #[pv X, pv u] w fun e w' => e = .returned (pv Y) ∧ Below w.heap.size w w') := fun w => by
          rw [hY]
          exact HK.out.times X u w (Mb.of ((HR.out.norm HT.out HX.out).bd HT.out) (by rw [hu]; exact unit_bd HT.out) (by omega))
        clear hY hu
        go_wp2_with fail
        refine (HZ.out _).mono ?_
        rintro e w1 ⟨rfl, k1⟩
        have M1 := HM.out.below k1
        have HM1 : Hid (Cm w.heap.size ⟨u, o, ft, fm, fc, fs⟩ X w w1) := M1
        clear x0 x1 k1 HM
        have x0 := M1.x.c0
        have x1 := M1.x.c1
        have r5 := (Kt.rd M1.r).2.2.2.2.2.1
        clear M1
        go_wp2_with fail
        refine (HC.out _).mono ?_
        rintro e w2 ⟨rfl, k2⟩
        have M2 := HM1.out.below k2
        have HM2 : Hid (Cm w.heap.size ⟨u, o, ft, fm, fc, fs⟩ X w w2) := M2
        clear x0 x1 k2 HM1 r5
        have x0 := M2.x.c0
        have x1 := M2.x.c1
        have r0 := (Kt.rd M2.r).1
        have r1 := (Kt.rd M2.r).2.1
        have r3 := (Kt.rd M2.r).2.2.2.1
        clear M2
        go_wp2_with fail
        refine (HTm.out _).mono ?_
        rintro e w3 ⟨rfl, k3⟩
        have M3 := HM2.out.below k3
        have HM3 : Hid (Cm w.heap.size ⟨u, o, ft, fm, fc, fs⟩ X w w3) := M3
        clear x0 x1 k3 HM2 r0 r1 r3
        have x0 := M3.x.c0
        have x1 := M3.x.c1
        have x2 := M3.x.f0
        have x3 := M3.x.f1
        have x4 := M3.x.lt
        clear M3
        go_wp2
        go_roundg (gk - 1)
        case rel => exact ⟨Y, (HR.out.next HT.out HX0.out HCh.out HY.out (HM3.out.setx Y)).1⟩
        case measure => exact (HR.out.next HT.out HX0.out HCh.out HY.out (HM3.out.setx Y)).2

end Go.Proofs.YtoionlnbodfhlacGreatDoor
