/- Package ring: takeOut, as often as it goes. -/
import Derived.Test.YtogdggdaaiajnadGreatDoorGfB
set_option linter.unusedSimpArgs false
set_option linter.unusedVariables false
set_option maxRecDepth 100000
namespace Go.Proofs.YtogdggdaaiajnadGreatDoor
open Go.RowKit

set_option maxHeartbeats 1000000 in
theorem takeOut_any (T : Int) (k : Kd) (K : KdIs T k) (p : Pp) (xs : Nat → Pp) (n : Nat) (w : World) (hT : TT T) (hp : Nb T p) (hx : ∀ i, i ≤ n → Nb T (xs i)) (h0 : p ≠ Pp.zero) (hn : n ≤ 100)
    (hq : ∀ i, i < n → quo T (xs i) p = xs (i + 1)) (h1 : ∀ i, i < n → (xs i).sub ((xs (i + 1)).mul T p) = Pp.zero) (h2 : (xs n).sub ((quo T (xs n) p).mul T p) ≠ Pp.zero) :
    Calls Tryz.prog 92 #[k.v, pv p, pv (xs 0)] w fun e w' => e = .returned (.tuple #[pv (xs n), .int .i64 n]) ∧ Below w.heap.size w w' := by
  have HD1 : Hid (∀ i w, i < n → Calls Tryz.prog 65 #[k.v, pv (xs i), pv p] w fun e w' => e = .returned (.tuple #[pv (xs (i + 1)), pv Pp.zero]) ∧ Below w.heap.size w w') := fun i w hi => by
    have h := rdiv_any T k K (xs i) p w hT (hx i (by omega)) hp h0
    rw [hq i hi, h1 i hi] at h
    exact h
  have HD2 : Hid (∀ w, Calls Tryz.prog 65 #[k.v, pv (xs n), pv p] w fun e w' => e = .returned (.tuple #[pv (quo T (xs n) p), pv ((xs n).sub ((quo T (xs n) p).mul T p))]) ∧ Below w.heap.size w w') := fun w => rdiv_any T k K (xs n) p w hT (hx n (by omega)) hp h0
  have HZ1 : Hid (∀ w, Calls Tryz.prog 57 #[pv Pp.zero] w fun e w' => e = .returned (.bool true) ∧ Below w.heap.size w w') := fun w => isZero_any Pp.zero w
  have HZ2 : Hid (∀ w, Calls Tryz.prog 57 #[pv ((xs n).sub ((quo T (xs n) p).mul T p))] w fun e w' => e = .returned (.bool false) ∧ Below w.heap.size w w') := fun w => by
    have h := isZero_any ((xs n).sub ((quo T (xs n) p).mul T p)) w
    rw [decide_eq_false h2] at h
    exact h
  obtain ⟨R, hR⟩ : ∃ R, R = (xs n).sub ((quo T (xs n) p).mul T p) := ⟨_, rfl⟩
  rw [← hR] at HD2 HZ2
  obtain ⟨q, hqq⟩ : ∃ q, q = quo T (xs n) p := ⟨_, rfl⟩
  rw [← hqq] at HD2
  clear hR hqq hq h1 h2 hT hp hx h0 K
  obtain ⟨u, o, ft, fm, fc, fs⟩ := k
  obtain ⟨x, hx0⟩ : ∃ x, x = xs 0 := ⟨_, rfl⟩
  rw [← hx0]
  have M0 := tm_new w ⟨u, o, ft, fm, fc, fs⟩ p x
  have HM0 : Hid (Tm w.heap.size ⟨u, o, ft, fm, fc, fs⟩ p (xs 0) w ((((w.alloc (.cells (Kd.cells ⟨u, o, ft, fm, fc, fs⟩) 55)).alloc (.cells #[.int .i64 p.a, .int .i64 p.b] 23)).alloc (.cells #[.int .i64 x.a, .int .i64 x.b] 23)).alloc (.cells #[.int .i64 0, .int .i64 0] 23))) := by rw [← hx0]; exact M0
  clear M0 hx0
  go_enter Tryz.func92, Tryz.ntmps92
  go_wp2
  go_loopw [7] (fun tv wx => ∃ i : Nat, i ≤ n ∧ tv = .int .i64 i ∧ Hid (Tm w.heap.size ⟨u, o, ft, fm, fc, fs⟩ p (xs i) w wx)) (fun tv _ => n - (intOf tv).toNat)
  case atStart => exact ⟨0, Nat.zero_le _, rfl, HM0.out⟩
  case round =>
    clear HM0
    obtain ⟨i, hi, rfl, HM⟩ := hrel
    by_cases hin : i < n
    · have HDi : Hid (∀ w, Calls Tryz.prog 65 #[Kd.v ⟨u, o, ft, fm, fc, fs⟩, pv (xs i), pv p] w fun e w' => e = .returned (.tuple #[pv (xs (i + 1)), pv Pp.zero]) ∧ Below w.heap.size w w') := fun w => HD1.out i w hin
      obtain ⟨X, hX⟩ : ∃ X, X = xs i := ⟨_, rfl⟩
      obtain ⟨Y, hY⟩ : ∃ Y, Y = xs (i + 1) := ⟨_, rfl⟩
      rw [← hX, ← hY] at HDi
      rw [← hX] at HM
      have HY : Hid (Y = xs (i + 1)) := hY
      clear hX hY
      have x0 := HM.out.x.c0
      have x1 := HM.out.x.c1
      have p0 := HM.out.p.c0
      have p1 := HM.out.p.c1
      obtain ⟨r0, r1, r2, r3, r4, r5, r6⟩ := Kt.rd HM.out.r
      go_wp2_with fail
      refine (HDi.out _).mono ?_
      rintro e w1 ⟨rfl, k1⟩
      have HM1 : Hid (Tm w.heap.size ⟨u, o, ft, fm, fc, fs⟩ p X w ((w1.alloc (.cells #[.int .i64 Y.a, .int .i64 Y.b] 23)).alloc (.cells #[.int .i64 0, .int .i64 0] 23))) := ((HM.out.below k1).alloc _).alloc _
      clear HM k1 x0 x1 p0 p1 r0 r1 r2 r3 r4 r5 r6
      go_wp2_with fail
      refine (HZ1.out _).mono ?_
      rintro e w2 ⟨rfl, k2⟩
      have M2 := HM1.out.below k2
      have HM2 : Hid (Tm w.heap.size ⟨u, o, ft, fm, fc, fs⟩ p X w w2) := M2
      have Q2 := (sv_alloc (sv_new w1 23 w1.heap.size rfl Y.a Y.b) (.cells #[.int .i64 0, .int .i64 0] 23)).below k2
      have q0 := Q2.c0
      have q1 := Q2.c1
      have x0 := M2.x.c0
      have x1 := M2.x.c1
      have x2 := M2.x.f0
      have x3 := M2.x.f1
      have x4 := M2.x.lt
      clear HM1 k2 M2 Q2
      go_wp2
      go_roundw
      case rel => exact ⟨i + 1, by omega, by go_num, by rw [← HY.out]; exact HM2.out.setx Y⟩
      case measure => simp [intOf]; omega
    · obtain rfl : i = n := by omega
      obtain ⟨X, hX⟩ : ∃ X, X = xs i := ⟨_, rfl⟩
      rw [← hX] at HD2 HM
      have HX : Hid (X = xs i) := hX
      clear hX HD1
      have x0 := HM.out.x.c0
      have x1 := HM.out.x.c1
      have p0 := HM.out.p.c0
      have p1 := HM.out.p.c1
      obtain ⟨r0, r1, r2, r3, r4, r5, r6⟩ := Kt.rd HM.out.r
      go_wp2_with fail
      refine (HD2.out _).mono ?_
      rintro e w1 ⟨rfl, k1⟩
      have HM1 : Hid (Tm w.heap.size ⟨u, o, ft, fm, fc, fs⟩ p X w ((w1.alloc (.cells #[.int .i64 q.a, .int .i64 q.b] 23)).alloc (.cells #[.int .i64 R.a, .int .i64 R.b] 23))) := ((HM.out.below k1).alloc _).alloc _
      clear HM k1 x0 x1 p0 p1 r0 r1 r2 r3 r4 r5 r6
      go_wp2_with fail
      refine (HZ2.out _).mono ?_
      rintro e w2 ⟨rfl, k2⟩
      have M2 := HM1.out.below k2
      have HK2 : Hid (Below w.heap.size w w2) := M2.k
      have x0 := M2.x.c0
      have x1 := M2.x.c1
      have l0 := M2.l.c0
      have l1 := M2.l.c1
      have l2 := M2.l.f0
      have l3 := M2.l.f1
      have l4 := M2.l.lt
      clear HM1 k2 M2
      go_wp2
      refine bodyPost_ret (v := .tuple #[pv X, .int .i64 i]) (by simp [results, Tryz.results92, go_sem, l0, l1, l4]) rfl ⟨by rw [HX.out], ?_⟩
      exact (HK2.out.setCell (by simp <;> omega) _).setCell (by simp <;> omega) _

end Go.Proofs.YtogdggdaaiajnadGreatDoor
