/- Package ring: takeOut, turns. -/
import Derived.Test.YtogdggdaaiajnadGreatDoorGfR
import Derived.Deep.LoopGhost
set_option linter.unusedSimpArgs false
set_option linter.unusedVariables false
set_option maxRecDepth 100000
namespace Go.Proofs.YtogdggdaaiajnadGreatDoor
open Go.RowKit

/-- The memory of takeOut: the ring, p, x, and the answer. -/
structure Tm (b : Nat) (k : Kd) (p x : Pp) (w W : World) : Prop where
  r : Kt b k W
  p : Sv (b + 1) p.a p.b W
  x : Sv (b + 2) x.a x.b W
  l : Sv (b + 3) 0 0 W
  k : Below b w W
theorem Tm.below {b : Nat} {k : Kd} {p x : Pp} {w W W' : World} (h : Tm b k p x w W) (c : Below W.heap.size W W') : Tm b k p x w W' :=
  ⟨h.r.below c, h.p.below c, h.x.below c, h.l.below c, h.k.trans (c.mono (by have := h.l.lt; omega))⟩
theorem Tm.alloc {b : Nat} {k : Kd} {p x : Pp} {w W : World} (h : Tm b k p x w W) (o : Obj) : Tm b k p x w (W.alloc o) := h.below (Below.alloc (Below.refl _ _) (Nat.le_refl _) _)
theorem Tm.setx {b : Nat} {k : Kd} {p x : Pp} {w W : World} (h : Tm b k p x w W) (y : Pp) : Tm b k p y w ((W.setCell ⟨b + 2, 0, none⟩ (.int .i64 y.a)).setCell ⟨b + 2, 1, none⟩ (.int .i64 y.b)) :=
  ⟨(h.r.other (by show b ≠ b + 2; omega) _).other (by show b ≠ b + 2; omega) _, h.p.other _ _ (by omega), h.x.set _ _, h.l.other _ _ (by omega), (h.k.setCell (by show b ≤ b + 2; omega) _).setCell (by show b ≤ b + 2; omega) _⟩
theorem tm_new (w : World) (k : Kd) (p x : Pp) : Tm w.heap.size k p x w ((((w.alloc (.cells k.cells 55)).alloc (.cells #[.int .i64 p.a, .int .i64 p.b] 23)).alloc (.cells #[.int .i64 x.a, .int .i64 x.b] 23)).alloc (.cells #[.int .i64 0, .int .i64 0] 23)) :=
  ⟨(((Cl.new k.list 55 w).alloc _).alloc _).alloc _, sv_alloc (sv_alloc (sv_new _ _ _ (by simp) _ _) _) _, sv_alloc (sv_new _ _ _ (by simp) _ _) _, sv_new _ _ _ (by simp) _ _, below4 _ _ _ _ _⟩

set_option maxHeartbeats 1000000 in
theorem takeOut_one (T : Int) (k : Kd) (K : KdIs T k) (p x y : Pp) (w : World) (hT : TT T) (hp : Nb T p) (hx : Nb T x) (hy : Nb T y) (h0 : p ≠ Pp.zero)
    (hq : quo T x p = y) (h1 : x.sub (y.mul T p) = Pp.zero) (h2 : y.sub ((quo T y p).mul T p) ≠ Pp.zero) :
    Calls Tryz.prog 92 #[k.v, pv p, pv x] w fun e w' => e = .returned (.tuple #[pv y, .int .i64 1]) ∧ Below w.heap.size w w' := by
  have HD1 : Hid (∀ w, Calls Tryz.prog 65 #[k.v, pv x, pv p] w fun e w' => e = .returned (.tuple #[pv y, pv Pp.zero]) ∧ Below w.heap.size w w') := fun w => by
    have h := rdiv_any T k K x p w hT hx hp h0
    rw [hq, h1] at h
    exact h
  have HD2 : Hid (∀ w, Calls Tryz.prog 65 #[k.v, pv y, pv p] w fun e w' => e = .returned (.tuple #[pv (quo T y p), pv (y.sub ((quo T y p).mul T p))]) ∧ Below w.heap.size w w') := fun w => rdiv_any T k K y p w hT hy hp h0
  have HZ1 : Hid (∀ w, Calls Tryz.prog 57 #[pv Pp.zero] w fun e w' => e = .returned (.bool true) ∧ Below w.heap.size w w') := fun w => isZero_any Pp.zero w
  have HZ2 : Hid (∀ w, Calls Tryz.prog 57 #[pv (y.sub ((quo T y p).mul T p))] w fun e w' => e = .returned (.bool false) ∧ Below w.heap.size w w') := fun w => by
    have h := isZero_any (y.sub ((quo T y p).mul T p)) w
    rw [decide_eq_false h2] at h
    exact h
  obtain ⟨R, hR⟩ : ∃ R, R = y.sub ((quo T y p).mul T p) := ⟨_, rfl⟩
  rw [← hR] at HD2 HZ2
  obtain ⟨q, hqq⟩ : ∃ q, q = quo T y p := ⟨_, rfl⟩
  rw [← hqq] at HD2
  clear hR hqq hq h1 h2 hT hp hx hy h0 K
  obtain ⟨u, o, ft, fm, fc, fs⟩ := k
  have M0 := tm_new w ⟨u, o, ft, fm, fc, fs⟩ p x
  go_enter Tryz.func92, Tryz.ntmps92
  go_wp2
  go_loopw [7] (fun tv wx => (tv = .int .i64 0 ∧ Hid (Tm w.heap.size ⟨u, o, ft, fm, fc, fs⟩ p x w wx)) ∨ (tv = .int .i64 1 ∧ Hid (Tm w.heap.size ⟨u, o, ft, fm, fc, fs⟩ p y w wx))) (fun tv _ => 1 - (intOf tv).toNat)
  case atStart => exact .inl ⟨rfl, M0⟩
  case round =>
    clear M0
    rcases hrel with ⟨rfl, HM⟩ | ⟨rfl, HM⟩
    · have x0 := HM.out.x.c0
      have x1 := HM.out.x.c1
      have p0 := HM.out.p.c0
      have p1 := HM.out.p.c1
      obtain ⟨r0, r1, r2, r3, r4, r5, r6⟩ := Kt.rd HM.out.r
      go_wp2_with fail
      refine (HD1.out _).mono ?_
      rintro e w1 ⟨rfl, k1⟩
      have HM1 : Hid (Tm w.heap.size ⟨u, o, ft, fm, fc, fs⟩ p x w ((w1.alloc (.cells #[.int .i64 y.a, .int .i64 y.b] 23)).alloc (.cells #[.int .i64 0, .int .i64 0] 23))) := ((HM.out.below k1).alloc _).alloc _
      clear HM k1 x0 x1 p0 p1 r0 r1 r2 r3 r4 r5 r6
      go_wp2_with fail
      refine (HZ1.out _).mono ?_
      rintro e w2 ⟨rfl, k2⟩
      have M2 := HM1.out.below k2
      have HM2 : Hid (Tm w.heap.size ⟨u, o, ft, fm, fc, fs⟩ p x w w2) := M2
      have Q2 := (sv_alloc (sv_new w1 23 w1.heap.size rfl y.a y.b) (.cells #[.int .i64 0, .int .i64 0] 23)).below k2
      have q0 := Q2.c0
      have q1 := Q2.c1
      have x0 := M2.x.c0
      have x1 := M2.x.c1
      have x2 := M2.x.f0
      have x3 := M2.x.f1
      have x4 := M2.x.lt
      clear HM1 k2 M2 Q2
      go_wp2
      go_roundw
      case rel => exact .inr ⟨rfl, HM2.out.setx y⟩
      case measure => simp [intOf]
    · have x0 := HM.out.x.c0
      have x1 := HM.out.x.c1
      have p0 := HM.out.p.c0
      have p1 := HM.out.p.c1
      obtain ⟨r0, r1, r2, r3, r4, r5, r6⟩ := Kt.rd HM.out.r
      go_wp2_with fail
      refine (HD2.out _).mono ?_
      rintro e w1 ⟨rfl, k1⟩
      have HM1 : Hid (Tm w.heap.size ⟨u, o, ft, fm, fc, fs⟩ p y w ((w1.alloc (.cells #[.int .i64 q.a, .int .i64 q.b] 23)).alloc (.cells #[.int .i64 R.a, .int .i64 R.b] 23))) := ((HM.out.below k1).alloc _).alloc _
      clear HM k1 x0 x1 p0 p1 r0 r1 r2 r3 r4 r5 r6
      go_wp2_with fail
      refine (HZ2.out _).mono ?_
      rintro e w2 ⟨rfl, k2⟩
      have M2 := HM1.out.below k2
      have HK2 : Hid (Below w.heap.size w w2) := M2.k
      have x0 := M2.x.c0
      have x1 := M2.x.c1
      have l0 := M2.l.c0
      have l1 := M2.l.c1
      have l2 := M2.l.f0
      have l3 := M2.l.f1
      have l4 := M2.l.lt
      clear HM1 k2 M2
      go_wp2
      refine bodyPost_ret (v := .tuple #[pv y, .int .i64 1]) (by simp [results, Tryz.results92, go_sem, l0, l1, l4]) rfl ⟨rfl, ?_⟩
      exact (HK2.out.setCell (by simp <;> omega) _).setCell (by simp <;> omega) _

set_option maxHeartbeats 1000000 in
theorem turns_any (T : Int) (k : Kd) (K : KdIs T k) (v : Pp) (n : Nat) (w : World) (hT : TT T) (hn : n ≤ 5) (h1 : rotN T Pp.one n = v) (h2 : ∀ i, i < n → rotN T Pp.one i ≠ v) :
    Calls Tryz.prog 68 #[k.v, pv v] w fun e w' => e = .returned (.int .i64 n) ∧ Below w.heap.size w w' := by
  have HH : Hid (rotN T Pp.one n = v ∧ ∀ i, i < n → rotN T Pp.one i ≠ v) := ⟨h1, h2⟩
  have HK : Hid (KdIs T k) := K
  have HT : Hid (TT T) := hT
  have et := K.et
  clear h1 h2 hT K
  obtain ⟨u, o, ft, fm, fc, fs⟩ := k
  go_enter Tryz.func68, Tryz.ntmps68
  have HR0 : Hid (Rx w.heap.size ⟨u, o, ft, fm, fc, fs⟩ v w (((w.alloc (.cells (Kd.cells ⟨u, o, ft, fm, fc, fs⟩) 55)).alloc (.cells #[.int .i64 v.a, .int .i64 v.b] 23)).alloc (.cells #[.int .i64 1, .int .i64 0] 23))) := (rx_new w ⟨u, o, ft, fm, fc, fs⟩ v).alloc _
  have HB0 : Hid (Sv (w.heap.size + 1 + 1) 1 0 (((w.alloc (.cells (Kd.cells ⟨u, o, ft, fm, fc, fs⟩) 55)).alloc (.cells #[.int .i64 v.a, .int .i64 v.b] 23)).alloc (.cells #[.int .i64 1, .int .i64 0] 23))) := sv_new _ _ _ (by simp) _ _
  go_wp2
  go_loopw [5, 6] (fun mv pv' wx => ∃ i B : Nat, i ≤ n ∧ mv = .int .i64 i ∧ pv' = .pointer (some ⟨B, 0, none⟩) ∧ w.heap.size + 1 < B ∧ Hid (Rx w.heap.size ⟨u, o, ft, fm, fc, fs⟩ v w wx ∧ Sv B (rotN T Pp.one i).a (rotN T Pp.one i).b wx)) (fun mv _ _ => n - (intOf mv).toNat)
  case atStart => exact ⟨0, w.heap.size + 1 + 1, Nat.zero_le _, rfl, rfl, by omega, HR0.out, HB0.out⟩
  case round =>
    clear HR0 HB0
    obtain ⟨i, B, hi, rfl, rfl, hB, HR⟩ := hrel
    obtain ⟨P, hP⟩ : ∃ P, P = rotN T Pp.one i := ⟨_, rfl⟩
    have HR1 : Hid (Rx w.heap.size ⟨u, o, ft, fm, fc, fs⟩ v w wr ∧ Sv B P.a P.b wr) := by rw [hP]; exact HR.out
    have p0 := HR1.out.2.c0
    have p1 := HR1.out.2.c1
    have v0 := HR1.out.1.x.c0
    have v1 := HR1.out.1.x.c1
    by_cases hin : i = n
    · have hPv : P = v := by rw [hP, hin]; exact HH.out.1
      have HK1 : Hid (Below w.heap.size w wr) := HR1.out.1.k
      subst hPv hin
      clear hP HR HR1
      go_wp2
      go_ret
      exact ⟨rfl, HK1.out⟩
    · have hPv : P ≠ v := by rw [hP]; exact HH.out.2 i (by omega)
      have hlt : i < n := by omega
      have hee : (P.a == v.a) = false ∨ ((P.a == v.a) = true ∧ (P.b == v.b) = false) := by
        rcases Decidable.em (P.a = v.a) with h | h
        · exact .inr ⟨beq_iff_eq.2 h, beq_eq_false_iff_ne.2 (fun k => hPv (Pp.ext' h k))⟩
        · exact .inl (beq_eq_false_iff_ne.2 h)
      obtain ⟨Y, hY⟩ : ∃ Y, Y = P.mul T u := ⟨_, rfl⟩
      have hu : u = unitOf T := HK.out.unit
      have HY : Hid (Y = rotN T Pp.one (i + 1)) := by show Y = (rotN T Pp.one i).mul T (unitOf T); rw [hY, hP, hu]
      have hPb : Bd 1000000000 P := by
        have hn : Nb T P := by
          unfold Nb; rw [hP, rot_norm HT.out]
          rcases HT.out with rfl | rfl <;> decide
        exact hn.bd HT.out
      have HTm : Hid (∀ w, Calls Tryz.prog ft #[pv P, pv u] w fun e w' => e = .returned (pv Y) ∧ Below w.heap.size w w') := fun w => by
        rw [hY]
        exact HK.out.times P u w (Mb.of hPb (by rw [hu]; exact unit_bd HT.out) (by omega))
      have r0 := fun o : Obj => (Kt.rd (HR1.out.1.alloc o).r).1
      have r1 := fun o : Obj => (Kt.rd (HR1.out.1.alloc o).r).2.1
      have r3 := fun o : Obj => (Kt.rd (HR1.out.1.alloc o).r).2.2.2.1
      have z1 := HR1.out.1.x.lt
      clear hY hu hPb hPv hP HR hin
      rcases hee with hee | ⟨hee, hef⟩
      · --A
        go_wp2_with fail
        refine (HTm.out _).mono ?_
        rintro e w1 ⟨rfl, k1⟩
        have R1 := (HR1.out.1.alloc (.cells #[.int .i64 P.a, .int .i64 P.b] 23)).below k1
        have B1 := (sv_new wr 23 wr.heap.size rfl P.a P.b).below k1
        have HR2 : Hid (Rx w.heap.size ⟨u, o, ft, fm, fc, fs⟩ v w w1 ∧ Sv wr.heap.size P.a P.b w1) := ⟨R1, B1⟩
        have hz : w.heap.size + 1 < wr.heap.size := HR1.out.1.x.lt
        have b0 := B1.c0
        have b1 := B1.c1
        have b2 := B1.f0
        have b3 := B1.f1
        have b4 := B1.lt
        clear R1 B1 k1 p0 p1 v0 v1 r0 r1 r3 HR1
        go_wp2
        go_roundw
        case rel =>
          refine ⟨i + 1, wr.heap.size, by omega, by go_num, rfl, hz, ?_, ?_⟩
          · exact ⟨(HR2.out.1.r.other (by show w.heap.size ≠ wr.heap.size; omega) _).other (by show w.heap.size ≠ wr.heap.size; omega) _, HR2.out.1.x.other _ _ (by omega), (HR2.out.1.k.setCell (by show w.heap.size ≤ wr.heap.size; omega) _).setCell (by show w.heap.size ≤ wr.heap.size; omega) _⟩
          · rw [← HY.out]; exact HR2.out.2.set _ _
        case measure => simp [intOf]; omega
      · --B
        go_wp2_with fail
        refine (HTm.out _).mono ?_
        rintro e w1 ⟨rfl, k1⟩
        have R1 := (HR1.out.1.alloc (.cells #[.int .i64 P.a, .int .i64 P.b] 23)).below k1
        have B1 := (sv_new wr 23 wr.heap.size rfl P.a P.b).below k1
        have HR2 : Hid (Rx w.heap.size ⟨u, o, ft, fm, fc, fs⟩ v w w1 ∧ Sv wr.heap.size P.a P.b w1) := ⟨R1, B1⟩
        have hz : w.heap.size + 1 < wr.heap.size := HR1.out.1.x.lt
        have b0 := B1.c0
        have b1 := B1.c1
        have b2 := B1.f0
        have b3 := B1.f1
        have b4 := B1.lt
        clear R1 B1 k1 p0 p1 v0 v1 r0 r1 r3 HR1
        go_wp2
        go_roundw
        case rel =>
          refine ⟨i + 1, wr.heap.size, by omega, by go_num, rfl, hz, ?_, ?_⟩
          · exact ⟨(HR2.out.1.r.other (by show w.heap.size ≠ wr.heap.size; omega) _).other (by show w.heap.size ≠ wr.heap.size; omega) _, HR2.out.1.x.other _ _ (by omega), (HR2.out.1.k.setCell (by show w.heap.size ≤ wr.heap.size; omega) _).setCell (by show w.heap.size ≤ wr.heap.size; omega) _⟩
          · rw [← HY.out]; exact HR2.out.2.set _ _
        case measure => simp [intOf]; omega

end Go.Proofs.YtogdggdaaiajnadGreatDoor
