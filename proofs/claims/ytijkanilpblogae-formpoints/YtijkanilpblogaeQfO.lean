/- The reference's PointsMany. Written by points.py. -/
import Derived.Test.YtijkanilpblogaeQfJ
import Derived.Deep.CutBlock
import Derived.Deep.LoopGhost
set_option linter.unusedSimpArgs false
set_option linter.unusedVariables false
set_option maxRecDepth 100000
namespace Go.Proofs.Ytijkanilpblogae
open Go.RowKit

set_option maxRecDepth 100000 in
set_option maxHeartbeats 16000000 in
theorem PointsMany_any (g : Qf) (n : Int) (w : World) (hu : g.upto 1000000) (ha : 1 ≤ g.a) (hr : g.redB = true) (hd : g.disc < 0) (hn : 0 ≤ n ∧ n ≤ 1000000) :
    Calls Try.prog 28 #[g.v, .int .i64 n] w fun e w' => (∃ k : Nat, e = .returned (.int .i64 (allP g n (fun _ => 2400) k).length) ∧ 4 * g.a * n < -g.disc * ((k : Int) * k)) ∧ Below w.heap.size w w' := by
  have HDi : Hid (∀ w, Calls Try.prog 15 #[g.v] w fun e w' => e = .returned (.int .i64 g.disc) ∧ Below w.heap.size w w') := fun w => refDisc_any g w hu
  have HV : Hid (∀ (p q : Int) w, (-3000 ≤ p ∧ p ≤ 3000) → (-3000 ≤ q ∧ q ≤ 3000) → Calls Try.prog 37 #[g.v, .int .i64 p, .int .i64 q] w fun e w' => e = .returned (.int .i64 (g.at p q)) ∧ Below w.heap.size w w') := fun p q w hp hq => Value_any g p q w hu hp hq
  have HS : Hid (∀ w, Calls Try.prog 36 #[.int .i64 g.b] w fun e w' => e = .returned (.int .i64 (g.b.natAbs : Int)) ∧ w' = w) := fun w => refSize_any g.b w (by have := hu.2.2.1; omega) (by have := hu.2.2.2.1; omega)
  have HG : Hid (g.redB = true ∧ g.disc < 0 ∧ g.upto 1000000) := ⟨hr, hd, hu⟩
  obtain ⟨S, hS⟩ : ∃ S : Int, S = (g.b.natAbs : Int) := ⟨_, rfl⟩
  have hSb : 0 ≤ S ∧ S ≤ 1000000 := by obtain ⟨a1, a2, a3, a4, a5, a6⟩ := hu; omega
  have HSS : Hid (S = (g.b.natAbs : Int)) := hS
  rw [← hS] at HS
  obtain ⟨D, hD⟩ : ∃ D, -g.disc = D := ⟨_, rfl⟩
  have hDb : 0 < D ∧ D ≤ 4000000000000 := by
    obtain ⟨a1, a2, a3, a4, a5, a6⟩ := hu
    have x1 := sq_nn g.b
    have x2 := sq_bd a1 a2 a5 a6
    have x3 : 4 * g.a * g.c = 4 * (g.a * g.c) := Int.mul_assoc ..
    rw [← hD]; unfold Qf.disc at hd ⊢
    omega
  have HD : Hid (-g.disc = D) := hD
  have hga : 1 ≤ g.a ∧ g.a ≤ 1000000 := ⟨ha, hu.2.1⟩
  have hgc : 1 ≤ g.c ∧ g.c ≤ 1000000 := ⟨pos_c ha hd, hu.2.2.2.2.2⟩
  rw [show g.disc = -D by omega] at HDi
  unfold Qf.v at HDi HV ⊢
  clear hu hr hd hS hD ha
  go_enter Try.func28, Try.ntmps28
  go_wp2_with fail
  have F0 := Cl.new g.l 32 w
  have K0 := al1 w (.cells #[.int .i64 g.a, .int .i64 g.b, .int .i64 g.c] 32)
  refine (HDi.out _).mono ?_
  rintro e w1 ⟨rfl, k1⟩
  have HM1 : Hid (Cl w.heap.size g.l 32 w1 ∧ Below w.heap.size w w1) := ⟨F0.below k1, K0.trans (k1.mono K0.size)⟩
  clear k1 F0 K0 HDi
  have hDD : - -D = D := by omega
  go_wp2
  go_loopg [5, 7] 1200 (fun gk mv yv wx => ∃ (y : Nat) (M : Int), mv = .int .i64 M ∧ yv = .int .i64 y ∧ y ≤ 1155 ∧ Hid (gk = 1200 - y ∧ M = ((allP g n (fun _ => 2400) y).length : Int) ∧ Cl w.heap.size g.l 32 wx ∧ Below w.heap.size w wx))
  case atStart => exact ⟨0, 0, rfl, rfl, by omega, rfl, rfl, HM1.out⟩
  case round =>
    clear HM1
    obtain ⟨y, M, rfl, rfl, hy, HR⟩ := hrel
    obtain ⟨T1, f1⟩ : ∃ T, D * (y : Int) = T := ⟨_, rfl⟩
    obtain ⟨T2, f2⟩ : ∃ T, T1 * (y : Int) = T := ⟨_, rfl⟩
    obtain ⟨T3, f3⟩ : ∃ T, 4 * g.a * n = T := ⟨_, rfl⟩
    have hT1 : 0 ≤ T1 ∧ T1 ≤ 4620000000000000 := by rw [← f1]; exact ⟨Int.mul_nonneg (by omega) (by omega), by have := Int.mul_le_mul hDb.2 (show (y : Int) ≤ 1155 by omega) (by omega) (by omega); omega⟩
    have hT2 : 0 ≤ T2 ∧ T2 ≤ 5336100000000000000 := by rw [← f2]; exact ⟨Int.mul_nonneg hT1.1 (by omega), by have := Int.mul_le_mul hT1.2 (show (y : Int) ≤ 1155 by omega) (by omega) (by omega); omega⟩
    have hT3 : 0 ≤ T3 ∧ T3 ≤ 4000000000000 := by rw [← f3]; exact ⟨Int.mul_nonneg (by omega) (by omega), by have := Int.mul_le_mul (show 4 * g.a ≤ 4000000 by omega) hn.2 (by omega) (by omega); omega⟩
    have HT : Hid (T2 = D * y * y ∧ T3 = 4 * g.a * n) := ⟨by rw [f1, f2], f3.symm⟩
    have HGk : Hid (gk = 1200 - y) := HR.out.1
    have c0 := HR.out.2.2.1.cell 0
    simp at c0
    by_cases hle : T2 ≤ T3
    · have hlb : decide (T2 ≤ T3) = true := decide_eq_true hle
      have hy2 : y ≤ 1154 := y_top HG.out.1 hga.1 hn (by rw [HD.out, ← HT.out.1, ← HT.out.2]; exact hle)
      have HML : Hid (M = ((allP g n (fun _ => 2400) y).length : Int)) := HR.out.2.1
      have HMM : Hid (Cl w.heap.size g.l 32 wr ∧ Below w.heap.size w wr) := HR.out.2.2
      go_wp2
      go_loopg [5, 8] 2401 (fun hk mv xv wx => ∃ (x : Nat) (M2 : Int), mv = .int .i64 M2 ∧ xv = .int .i64 x ∧ x ≤ 2400 ∧ Hid (hk = 2401 - x ∧ M2 = ((allP g n (fun _ => 2400) y ++ rowP g n y x).length : Int) ∧ Cl w.heap.size g.l 32 wx ∧ Below w.heap.size w wx))
      case atStart => exact ⟨0, M, rfl, rfl, by omega, rfl, by rw [HML.out]; simp [rowP], HMM.out⟩
      case round =>
        clear HMM HML HR c0 f1 f2 f3 hT1 hT2 hT3 hlb hle
        obtain ⟨x, M2, rfl, rfl, hx, HR⟩ := hrel
        have HHk : Hid (gk = 2401 - x) := HR.out.1
        have HML2 : Hid (M2 = ((allP g n (fun _ => 2400) y ++ rowP g n y x).length : Int)) := HR.out.2.1
        have HM : Hid (Cl w.heap.size g.l 32 wr ∧ Below w.heap.size w wr) := HR.out.2.2
        clear HR
        obtain ⟨t1, e1⟩ : ∃ t, g.a * (x : Int) = t := ⟨_, rfl⟩
        obtain ⟨t2, e2⟩ : ∃ t, t1 * (x : Int) = t := ⟨_, rfl⟩
        obtain ⟨t3, e3⟩ : ∃ t, S * (x : Int) = t := ⟨_, rfl⟩
        obtain ⟨t4, e4⟩ : ∃ t, t3 * (y : Int) = t := ⟨_, rfl⟩
        obtain ⟨t5, e5⟩ : ∃ t, g.c * (y : Int) = t := ⟨_, rfl⟩
        obtain ⟨t6, e6⟩ : ∃ t, t5 * (y : Int) = t := ⟨_, rfl⟩
        obtain ⟨t7, e7⟩ : ∃ t, 2 * g.a * (x : Int) = t := ⟨_, rfl⟩
        obtain ⟨t8, e8⟩ : ∃ t, S * (y : Int) = t := ⟨_, rfl⟩
        have ht1 : 0 ≤ t1 ∧ t1 ≤ 2400000000 := by rw [← e1]; exact ⟨Int.mul_nonneg (by omega) (by omega), by have := Int.mul_le_mul hga.2 (show (x : Int) ≤ 2400 by omega) (by omega) (by omega); omega⟩
        have ht2 : 0 ≤ t2 ∧ t2 ≤ 5760000000000 := by rw [← e2]; exact ⟨Int.mul_nonneg ht1.1 (by omega), by have := Int.mul_le_mul ht1.2 (show (x : Int) ≤ 2400 by omega) (by omega) (by omega); omega⟩
        have ht3 : 0 ≤ t3 ∧ t3 ≤ 2400000000 := by rw [← e3]; exact ⟨Int.mul_nonneg hSb.1 (by omega), by have := Int.mul_le_mul hSb.2 (show (x : Int) ≤ 2400 by omega) (by omega) (by omega); omega⟩
        have ht4 : 0 ≤ t4 ∧ t4 ≤ 2880000000000 := by rw [← e4]; exact ⟨Int.mul_nonneg ht3.1 (by omega), by have := Int.mul_le_mul ht3.2 (show (y : Int) ≤ 1200 by omega) (by omega) (by omega); omega⟩
        have ht5 : 0 ≤ t5 ∧ t5 ≤ 1200000000 := by rw [← e5]; exact ⟨Int.mul_nonneg (by omega) (by omega), by have := Int.mul_le_mul hgc.2 (show (y : Int) ≤ 1200 by omega) (by omega) (by omega); omega⟩
        have ht6 : 0 ≤ t6 ∧ t6 ≤ 1440000000000 := by rw [← e6]; exact ⟨Int.mul_nonneg ht5.1 (by omega), by have := Int.mul_le_mul ht5.2 (show (y : Int) ≤ 1200 by omega) (by omega) (by omega); omega⟩
        have ht7 : 0 ≤ t7 ∧ t7 ≤ 4800000000 := by rw [← e7]; exact ⟨Int.mul_nonneg (by omega) (by omega), by have := Int.mul_le_mul (show 2 * g.a ≤ 2000000 by omega) (show (x : Int) ≤ 2400 by omega) (by omega) (by omega); omega⟩
        have ht8 : 0 ≤ t8 ∧ t8 ≤ 1200000000 := by rw [← e8]; exact ⟨Int.mul_nonneg hSb.1 (by omega), by have := Int.mul_le_mul hSb.2 (show (y : Int) ≤ 1200 by omega) (by omega) (by omega); omega⟩
        have ew1 : IntKind.i64.wrap t1 = t1 := by rw [IntKind.wrap_i64]; omega
        have ew2 : IntKind.i64.wrap t2 = t2 := by rw [IntKind.wrap_i64]; omega
        have ew3 : IntKind.i64.wrap t3 = t3 := by rw [IntKind.wrap_i64]; omega
        have ew4 : IntKind.i64.wrap t4 = t4 := by rw [IntKind.wrap_i64]; omega
        have ew5 : IntKind.i64.wrap t5 = t5 := by rw [IntKind.wrap_i64]; omega
        have ew6 : IntKind.i64.wrap t6 = t6 := by rw [IntKind.wrap_i64]; omega
        have ew7 : IntKind.i64.wrap t7 = t7 := by rw [IntKind.wrap_i64]; omega
        have ew8 : IntKind.i64.wrap t8 = t8 := by rw [IntKind.wrap_i64]; omega
        have ew9 : IntKind.i64.wrap (t2 - t4) = t2 - t4 := by rw [IntKind.wrap_i64]; omega
        have ew10 : IntKind.i64.wrap (t2 - t4 + t6) = t2 - t4 + t6 := by rw [IntKind.wrap_i64]; omega
        have ew11 : IntKind.i64.wrap (2 * g.a) = 2 * g.a := by rw [IntKind.wrap_i64]; omega
        have HVal : Hid (g.a * ((x : Int) * x) - S * ((x : Int) * y) + g.c * ((y : Int) * y) = t2 - t4 + t6 ∧ 2 * g.a * (x : Int) = t7 ∧ S * (y : Int) = t8) := by
          refine ⟨?_, e7, e8⟩
          rw [← e2, ← e4, ← e6, ← e1, ← e3, ← e5]
          grind
        obtain ⟨BB, hBB⟩ : ∃ b : Bool, b = (decide (n < t2 - t4 + t6) && decide (t8 < t7)) := ⟨_, rfl⟩
        have HBB : Hid (BB = (decide (n < t2 - t4 + t6) && decide (t8 < t7))) := hBB
        clear hBB
        go_wp2_with fail
        go_cut [65] from 28 to 103 (fun bv wx => bv = .bool BB ∧ Hid (Cl w.heap.size g.l 32 wx ∧ Below w.heap.size w wx))
        case first =>
          have c0 := HM.out.1.cell 0
          have c1 := HM.out.1.cell 1
          have c2 := HM.out.1.cell 2
          simp at c0 c1 c2
          by_cases hb1 : n < t2 - t4 + t6
          · have bb1 : decide (n < t2 - t4 + t6) = true := decide_eq_true hb1
            by_cases hb2 : t8 < t7
            · have bb2 : decide (t8 < t7) = true := decide_eq_true hb2
              refine wp_region_G (fun W => W.cell? ⟨w.heap.size, 0, none⟩ = some (.int .i64 g.a) ∧ W.cell? ⟨w.heap.size, 1, none⟩ = some (.int .i64 g.b) ∧ W.cell? ⟨w.heap.size, 2, none⟩ = some (.int .i64 g.c)) 35 (by kernel_rfl) ⟨c0, c1, c2⟩ (fun hHeld => ?_)
              refine wpAnyG_take (i := 0) (v := ?v0x1) rfl (by kernel_rfl) (fun _ _ _ h => h) (Or.inl ⟨by rfl, ?y0x1⟩) hHeld ?r0x1
              case y0x1 => (intro wS hSw; obtain ⟨s1, s2, s3⟩ := hSw; go_simp; try with_reducible rfl)
              try simp only [Act.put, List.setIfInBounds_toArray, List.set_cons_zero, List.set_cons_succ]
              refine wpAnyG_take (i := 1) (v := ?v1x2) rfl (by kernel_rfl) (fun _ _ _ h => h) (Or.inl ⟨by rfl, ?y1x2⟩) hHeld ?r1x2
              case y1x2 => (intro wS hSw; obtain ⟨s1, s2, s3⟩ := hSw; go_simp; try with_reducible rfl)
              try simp only [Act.put, List.setIfInBounds_toArray, List.set_cons_zero, List.set_cons_succ]
              refine wpAnyG_take (i := 2) (v := ?v2x3) rfl (by kernel_rfl) (fun _ _ _ h => h) (Or.inl ⟨by rfl, ?y2x3⟩) hHeld ?r2x3
              case y2x3 => (intro wS hSw; obtain ⟨s1, s2, s3⟩ := hSw; go_simp; try with_reducible rfl)
              try simp only [Act.put, List.setIfInBounds_toArray, List.set_cons_zero, List.set_cons_succ]
              refine wpAnyG_take (i := 3) (v := .int .i64 t1) rfl (by kernel_rfl) (fun _ _ _ h => h) (Or.inl ⟨by kernel_rfl, ?y3x4⟩) hHeld ?r3x4
              case y3x4 => (intro wS hSw; (go_simp; try simp only [e1, ew1]))
              try simp only [Act.put, List.setIfInBounds_toArray, List.set_cons_zero, List.set_cons_succ]
              refine wpAnyG_take (i := 4) (v := ?v4x5) rfl (by kernel_rfl) (fun _ _ _ h => h) (Or.inl ⟨by rfl, ?y4x5⟩) hHeld ?r4x5
              case y4x5 => (intro wS hSw; obtain ⟨s1, s2, s3⟩ := hSw; go_simp; try with_reducible rfl)
              try simp only [Act.put, List.setIfInBounds_toArray, List.set_cons_zero, List.set_cons_succ]
              refine wpAnyG_take (i := 5) (v := .int .i64 t2) rfl (by kernel_rfl) (fun _ _ _ h => h) (Or.inl ⟨by kernel_rfl, ?y5x6⟩) hHeld ?r5x6
              case y5x6 => (intro wS hSw; (go_simp; try simp only [e2, ew2]))
              try simp only [Act.put, List.setIfInBounds_toArray, List.set_cons_zero, List.set_cons_succ]
              refine wpAnyG_take (i := 6) (v := ?v6x7) rfl (by kernel_rfl) (fun _ _ _ h => h) (Or.inl ⟨by rfl, ?y6x7⟩) hHeld ?r6x7
              case y6x7 => (intro wS hSw; obtain ⟨s1, s2, s3⟩ := hSw; go_simp; try with_reducible rfl)
              try simp only [Act.put, List.setIfInBounds_toArray, List.set_cons_zero, List.set_cons_succ]
              refine wpAnyG_take (i := 7) (v := ?v7x8) rfl (by kernel_rfl) (fun _ _ _ h => h) (Or.inl ⟨by rfl, ?y7x8⟩) hHeld ?r7x8
              case y7x8 => (intro wS hSw; obtain ⟨s1, s2, s3⟩ := hSw; go_simp; try with_reducible rfl)
              try simp only [Act.put, List.setIfInBounds_toArray, List.set_cons_zero, List.set_cons_succ]
              refine wpAnyG_take (i := 9) (v := ?v9x9) rfl (by kernel_rfl) (fun _ _ _ h => h) (Or.inl ⟨by rfl, ?y9x9⟩) hHeld ?r9x9
              case y9x9 => (intro wS hSw; obtain ⟨s1, s2, s3⟩ := hSw; go_simp; try with_reducible rfl)
              try simp only [Act.put, List.setIfInBounds_toArray, List.set_cons_zero, List.set_cons_succ]
              refine wpAnyG_take (i := 11) (v := ?v11x10) rfl (by kernel_rfl) (fun _ _ _ h => h) (Or.inl ⟨by rfl, ?y11x10⟩) hHeld ?r11x10
              case y11x10 => (intro wS hSw; obtain ⟨s1, s2, s3⟩ := hSw; go_simp; try with_reducible rfl)
              try simp only [Act.put, List.setIfInBounds_toArray, List.set_cons_zero, List.set_cons_succ]
              refine wpAnyG_take (i := 14) (v := ?v14x11) rfl (by kernel_rfl) (fun _ _ _ h => h) (Or.inl ⟨by rfl, ?y14x11⟩) hHeld ?r14x11
              case y14x11 => (intro wS hSw; obtain ⟨s1, s2, s3⟩ := hSw; go_simp; try with_reducible rfl)
              try simp only [Act.put, List.setIfInBounds_toArray, List.set_cons_zero, List.set_cons_succ]
              refine wpAnyG_take (i := 15) (v := ?v15x12) rfl (by kernel_rfl) (fun _ _ _ h => h) (Or.inl ⟨by rfl, ?y15x12⟩) hHeld ?r15x12
              case y15x12 => (intro wS hSw; obtain ⟨s1, s2, s3⟩ := hSw; go_simp; try with_reducible rfl)
              try simp only [Act.put, List.setIfInBounds_toArray, List.set_cons_zero, List.set_cons_succ]
              refine wpAnyG_take (i := 16) (v := ?v16x13) rfl (by kernel_rfl) (fun _ _ _ h => h) (Or.inl ⟨by rfl, ?y16x13⟩) hHeld ?r16x13
              case y16x13 => (intro wS hSw; obtain ⟨s1, s2, s3⟩ := hSw; go_simp; try with_reducible rfl)
              try simp only [Act.put, List.setIfInBounds_toArray, List.set_cons_zero, List.set_cons_succ]
              refine wpAnyG_take (i := 17) (v := .int .i64 t5) rfl (by kernel_rfl) (fun _ _ _ h => h) (Or.inl ⟨by kernel_rfl, ?y17x14⟩) hHeld ?r17x14
              case y17x14 => (intro wS hSw; (go_simp; try simp only [e5, ew5]))
              try simp only [Act.put, List.setIfInBounds_toArray, List.set_cons_zero, List.set_cons_succ]
              refine wpAnyG_take (i := 18) (v := ?v18x15) rfl (by kernel_rfl) (fun _ _ _ h => h) (Or.inl ⟨by rfl, ?y18x15⟩) hHeld ?r18x15
              case y18x15 => (intro wS hSw; obtain ⟨s1, s2, s3⟩ := hSw; go_simp; try with_reducible rfl)
              try simp only [Act.put, List.setIfInBounds_toArray, List.set_cons_zero, List.set_cons_succ]
              refine wpAnyG_take (i := 19) (v := .int .i64 t6) rfl (by kernel_rfl) (fun _ _ _ h => h) (Or.inl ⟨by kernel_rfl, ?y19x16⟩) hHeld ?r19x16
              case y19x16 => (intro wS hSw; (go_simp; try simp only [e6, ew6]))
              try simp only [Act.put, List.setIfInBounds_toArray, List.set_cons_zero, List.set_cons_succ]
              refine wpAnyG_take (i := 21) (v := ?v21x17) rfl (by kernel_rfl) (fun _ _ _ h => h) (Or.inl ⟨by rfl, ?y21x17⟩) hHeld ?r21x17
              case y21x17 => (intro wS hSw; obtain ⟨s1, s2, s3⟩ := hSw; go_simp; try with_reducible rfl)
              try simp only [Act.put, List.setIfInBounds_toArray, List.set_cons_zero, List.set_cons_succ]
              refine wpAnyG_one (i := 8) rfl (by kernel_rfl) (fun K hK => ?_)
              go_simp
              refine (HS.out _).mono ?_
              rintro e w4 ⟨rfl, rfl⟩
              refine hK.out _ _ hHeld ?_
              clear hK K
              try simp only [Act.put, List.setIfInBounds_toArray, List.set_cons_zero, List.set_cons_succ]
              refine wpAnyG_take (i := 10) (v := .int .i64 t3) rfl (by kernel_rfl) (fun _ _ _ h => h) (Or.inl ⟨by kernel_rfl, ?y10x18⟩) hHeld ?r10x18
              case y10x18 => (intro wS hSw; (go_simp; try simp only [e3, ew3]))
              try simp only [Act.put, List.setIfInBounds_toArray, List.set_cons_zero, List.set_cons_succ]
              refine wpAnyG_take (i := 12) (v := .int .i64 t4) rfl (by kernel_rfl) (fun _ _ _ h => h) (Or.inl ⟨by kernel_rfl, ?y12x19⟩) hHeld ?r12x19
              case y12x19 => (intro wS hSw; (go_simp; try simp only [e4, ew4]))
              try simp only [Act.put, List.setIfInBounds_toArray, List.set_cons_zero, List.set_cons_succ]
              refine wpAnyG_take (i := 13) (v := .int .i64 (t2 - t4)) rfl (by kernel_rfl) (fun _ _ _ h => h) (Or.inl ⟨by kernel_rfl, ?y13x20⟩) hHeld ?r13x20
              case y13x20 => (intro wS hSw; (go_simp; try simp only [ew9]))
              try simp only [Act.put, List.setIfInBounds_toArray, List.set_cons_zero, List.set_cons_succ]
              refine wpAnyG_take (i := 20) (v := .int .i64 (t2 - t4 + t6)) rfl (by kernel_rfl) (fun _ _ _ h => h) (Or.inl ⟨by kernel_rfl, ?y20x21⟩) hHeld ?r20x21
              case y20x21 => (intro wS hSw; (go_simp; try simp only [ew10]))
              try simp only [Act.put, List.setIfInBounds_toArray, List.set_cons_zero, List.set_cons_succ]
              refine wpAnyG_take (i := 22) (v := .bool true) rfl (by kernel_rfl) (fun _ _ _ h => h) (Or.inl ⟨by kernel_rfl, ?y22x22⟩) hHeld ?r22x22
              case y22x22 => (intro wS hSw; (go_simp; try rfl))
              try simp only [Act.put, List.setIfInBounds_toArray, List.set_cons_zero, List.set_cons_succ]
              refine wpAnyG_take (i := 23) (v := .bool true) rfl (by kernel_rfl) (fun _ _ _ h => h) (Or.inl ⟨by kernel_rfl, ?y23x23⟩) hHeld ?r23x23
              case y23x23 => (intro wS hSw; (go_simp; try rfl))
              try simp only [Act.put, List.setIfInBounds_toArray, List.set_cons_zero, List.set_cons_succ]
              refine wpAnyG_take (i := 24) (v := ?v24x24) rfl (by kernel_rfl) (fun _ _ _ h => h) (Or.inl ⟨by kernel_rfl, ?y24x24⟩) hHeld ?r24x24
              case y24x24 => (intro wS hSw; have s1 := hSw; go_simp; try with_reducible rfl)
              try simp only [Act.put, List.setIfInBounds_toArray, List.set_cons_zero, List.set_cons_succ]
              refine wpAnyG_take (i := 25) (v := ?v25x25) rfl (by kernel_rfl) (fun _ _ _ h => h) (Or.inl ⟨by kernel_rfl, ?y25x25⟩) hHeld ?r25x25
              case y25x25 => (intro wS hSw; have s1 := hSw; go_simp; try with_reducible rfl)
              try simp only [Act.put, List.setIfInBounds_toArray, List.set_cons_zero, List.set_cons_succ]
              refine wpAnyG_take (i := 26) (v := .int .i64 (2 * g.a)) rfl (by kernel_rfl) (fun _ _ _ h => h) (Or.inl ⟨by kernel_rfl, ?y26x26⟩) hHeld ?r26x26
              case y26x26 => (intro wS hSw; (go_simp; try simp only [ew11]))
              try simp only [Act.put, List.setIfInBounds_toArray, List.set_cons_zero, List.set_cons_succ]
              refine wpAnyG_take (i := 27) (v := ?v27x27) rfl (by kernel_rfl) (fun _ _ _ h => h) (Or.inl ⟨by kernel_rfl, ?y27x27⟩) hHeld ?r27x27
              case y27x27 => (intro wS hSw; have s1 := hSw; go_simp; try with_reducible rfl)
              try simp only [Act.put, List.setIfInBounds_toArray, List.set_cons_zero, List.set_cons_succ]
              refine wpAnyG_take (i := 28) (v := .int .i64 t7) rfl (by kernel_rfl) (fun _ _ _ h => h) (Or.inl ⟨by kernel_rfl, ?y28x28⟩) hHeld ?r28x28
              case y28x28 => (intro wS hSw; (go_simp; try simp only [e7, ew7]))
              try simp only [Act.put, List.setIfInBounds_toArray, List.set_cons_zero, List.set_cons_succ]
              refine wpAnyG_take (i := 29) (v := ?v29x29) rfl (by kernel_rfl) (fun _ _ _ h => h) (Or.inl ⟨by kernel_rfl, ?y29x29⟩) hHeld ?r29x29
              case y29x29 => (intro wS hSw; have s1 := hSw; go_simp; try with_reducible rfl)
              try simp only [Act.put, List.setIfInBounds_toArray, List.set_cons_zero, List.set_cons_succ]
              refine wpAnyG_take (i := 30) (v := ?v30x30) rfl (by kernel_rfl) (fun _ _ _ h => h) (Or.inl ⟨by kernel_rfl, ?y30x30⟩) hHeld ?r30x30
              case y30x30 => (intro wS hSw; have s1 := hSw; go_simp; try with_reducible rfl)
              try simp only [Act.put, List.setIfInBounds_toArray, List.set_cons_zero, List.set_cons_succ]
              refine wpAnyG_take (i := 32) (v := ?v32x31) rfl (by kernel_rfl) (fun _ _ _ h => h) (Or.inl ⟨by kernel_rfl, ?y32x31⟩) hHeld ?r32x31
              case y32x31 => (intro wS hSw; have s1 := hSw; go_simp; try with_reducible rfl)
              try simp only [Act.put, List.setIfInBounds_toArray, List.set_cons_zero, List.set_cons_succ]
              refine wpAnyG_one (i := 31) rfl (by kernel_rfl) (fun K hK => ?_)
              rw [if_pos (by kernel_rfl)]
              go_simp
              refine (HS.out _).mono ?_
              rintro e w4 ⟨rfl, rfl⟩
              refine hK.out _ _ hHeld ?_
              clear hK K
              try simp only [Act.put, List.setIfInBounds_toArray, List.set_cons_zero, List.set_cons_succ]
              refine wpAnyG_take (i := 33) (v := .int .i64 t8) rfl (by kernel_rfl) (fun _ _ _ h => h) (Or.inl ⟨by kernel_rfl, ?y33x32⟩) hHeld ?r33x32
              case y33x32 => (intro wS hSw; (go_simp; try simp only [e8, ew8]))
              try simp only [Act.put, List.setIfInBounds_toArray, List.set_cons_zero, List.set_cons_succ]
              refine wpAnyG_take (i := 34) (v := .bool true) rfl (by kernel_rfl) (fun _ _ _ h => h) (Or.inl ⟨by kernel_rfl, ?y34x33⟩) hHeld ?r34x33
              case y34x33 => (intro wS hSw; (go_simp; try rfl))
              try simp only [Act.put, List.setIfInBounds_toArray, List.set_cons_zero, List.set_cons_succ]
              refine wpAnyG_last (i := 35) rfl (by kernel_rfl) (by kernel_rfl) (fun K hK => ?_)
              go_simp
              refine hK.out _ _ ?_
              clear hK K
              try simp only [Act.put, List.setIfInBounds_toArray, List.set_cons_zero, List.set_cons_succ]
              refine wpAnyG_done (by kernel_rfl) ?_ _
              have HM4 : Hid (Cl w.heap.size g.l 32 wr.drew ∧ Below w.heap.size w wr.drew) := ⟨HM.out.1, HM.out.2.drew⟩
              clear hHeld
              go_wp2
              go_meet
              exact ⟨by first | rfl | (rw [HBB.out]; simp [bb1, bb2]), HM4.out⟩
            · have bb2 : decide (t8 < t7) = false := decide_eq_false hb2
              refine wp_region_G (fun W => W.cell? ⟨w.heap.size, 0, none⟩ = some (.int .i64 g.a) ∧ W.cell? ⟨w.heap.size, 1, none⟩ = some (.int .i64 g.b) ∧ W.cell? ⟨w.heap.size, 2, none⟩ = some (.int .i64 g.c)) 35 (by kernel_rfl) ⟨c0, c1, c2⟩ (fun hHeld => ?_)
              refine wpAnyG_take (i := 0) (v := ?v0x34) rfl (by kernel_rfl) (fun _ _ _ h => h) (Or.inl ⟨by rfl, ?y0x34⟩) hHeld ?r0x34
              case y0x34 => (intro wS hSw; obtain ⟨s1, s2, s3⟩ := hSw; go_simp; try with_reducible rfl)
              try simp only [Act.put, List.setIfInBounds_toArray, List.set_cons_zero, List.set_cons_succ]
              refine wpAnyG_take (i := 1) (v := ?v1x35) rfl (by kernel_rfl) (fun _ _ _ h => h) (Or.inl ⟨by rfl, ?y1x35⟩) hHeld ?r1x35
              case y1x35 => (intro wS hSw; obtain ⟨s1, s2, s3⟩ := hSw; go_simp; try with_reducible rfl)
              try simp only [Act.put, List.setIfInBounds_toArray, List.set_cons_zero, List.set_cons_succ]
              refine wpAnyG_take (i := 2) (v := ?v2x36) rfl (by kernel_rfl) (fun _ _ _ h => h) (Or.inl ⟨by rfl, ?y2x36⟩) hHeld ?r2x36
              case y2x36 => (intro wS hSw; obtain ⟨s1, s2, s3⟩ := hSw; go_simp; try with_reducible rfl)
              try simp only [Act.put, List.setIfInBounds_toArray, List.set_cons_zero, List.set_cons_succ]
              refine wpAnyG_take (i := 3) (v := .int .i64 t1) rfl (by kernel_rfl) (fun _ _ _ h => h) (Or.inl ⟨by kernel_rfl, ?y3x37⟩) hHeld ?r3x37
              case y3x37 => (intro wS hSw; (go_simp; try simp only [e1, ew1]))
              try simp only [Act.put, List.setIfInBounds_toArray, List.set_cons_zero, List.set_cons_succ]
              refine wpAnyG_take (i := 4) (v := ?v4x38) rfl (by kernel_rfl) (fun _ _ _ h => h) (Or.inl ⟨by rfl, ?y4x38⟩) hHeld ?r4x38
              case y4x38 => (intro wS hSw; obtain ⟨s1, s2, s3⟩ := hSw; go_simp; try with_reducible rfl)
              try simp only [Act.put, List.setIfInBounds_toArray, List.set_cons_zero, List.set_cons_succ]
              refine wpAnyG_take (i := 5) (v := .int .i64 t2) rfl (by kernel_rfl) (fun _ _ _ h => h) (Or.inl ⟨by kernel_rfl, ?y5x39⟩) hHeld ?r5x39
              case y5x39 => (intro wS hSw; (go_simp; try simp only [e2, ew2]))
              try simp only [Act.put, List.setIfInBounds_toArray, List.set_cons_zero, List.set_cons_succ]
              refine wpAnyG_take (i := 6) (v := ?v6x40) rfl (by kernel_rfl) (fun _ _ _ h => h) (Or.inl ⟨by rfl, ?y6x40⟩) hHeld ?r6x40
              case y6x40 => (intro wS hSw; obtain ⟨s1, s2, s3⟩ := hSw; go_simp; try with_reducible rfl)
              try simp only [Act.put, List.setIfInBounds_toArray, List.set_cons_zero, List.set_cons_succ]
              refine wpAnyG_take (i := 7) (v := ?v7x41) rfl (by kernel_rfl) (fun _ _ _ h => h) (Or.inl ⟨by rfl, ?y7x41⟩) hHeld ?r7x41
              case y7x41 => (intro wS hSw; obtain ⟨s1, s2, s3⟩ := hSw; go_simp; try with_reducible rfl)
              try simp only [Act.put, List.setIfInBounds_toArray, List.set_cons_zero, List.set_cons_succ]
              refine wpAnyG_take (i := 9) (v := ?v9x42) rfl (by kernel_rfl) (fun _ _ _ h => h) (Or.inl ⟨by rfl, ?y9x42⟩) hHeld ?r9x42
              case y9x42 => (intro wS hSw; obtain ⟨s1, s2, s3⟩ := hSw; go_simp; try with_reducible rfl)
              try simp only [Act.put, List.setIfInBounds_toArray, List.set_cons_zero, List.set_cons_succ]
              refine wpAnyG_take (i := 11) (v := ?v11x43) rfl (by kernel_rfl) (fun _ _ _ h => h) (Or.inl ⟨by rfl, ?y11x43⟩) hHeld ?r11x43
              case y11x43 => (intro wS hSw; obtain ⟨s1, s2, s3⟩ := hSw; go_simp; try with_reducible rfl)
              try simp only [Act.put, List.setIfInBounds_toArray, List.set_cons_zero, List.set_cons_succ]
              refine wpAnyG_take (i := 14) (v := ?v14x44) rfl (by kernel_rfl) (fun _ _ _ h => h) (Or.inl ⟨by rfl, ?y14x44⟩) hHeld ?r14x44
              case y14x44 => (intro wS hSw; obtain ⟨s1, s2, s3⟩ := hSw; go_simp; try with_reducible rfl)
              try simp only [Act.put, List.setIfInBounds_toArray, List.set_cons_zero, List.set_cons_succ]
              refine wpAnyG_take (i := 15) (v := ?v15x45) rfl (by kernel_rfl) (fun _ _ _ h => h) (Or.inl ⟨by rfl, ?y15x45⟩) hHeld ?r15x45
              case y15x45 => (intro wS hSw; obtain ⟨s1, s2, s3⟩ := hSw; go_simp; try with_reducible rfl)
              try simp only [Act.put, List.setIfInBounds_toArray, List.set_cons_zero, List.set_cons_succ]
              refine wpAnyG_take (i := 16) (v := ?v16x46) rfl (by kernel_rfl) (fun _ _ _ h => h) (Or.inl ⟨by rfl, ?y16x46⟩) hHeld ?r16x46
              case y16x46 => (intro wS hSw; obtain ⟨s1, s2, s3⟩ := hSw; go_simp; try with_reducible rfl)
              try simp only [Act.put, List.setIfInBounds_toArray, List.set_cons_zero, List.set_cons_succ]
              refine wpAnyG_take (i := 17) (v := .int .i64 t5) rfl (by kernel_rfl) (fun _ _ _ h => h) (Or.inl ⟨by kernel_rfl, ?y17x47⟩) hHeld ?r17x47
              case y17x47 => (intro wS hSw; (go_simp; try simp only [e5, ew5]))
              try simp only [Act.put, List.setIfInBounds_toArray, List.set_cons_zero, List.set_cons_succ]
              refine wpAnyG_take (i := 18) (v := ?v18x48) rfl (by kernel_rfl) (fun _ _ _ h => h) (Or.inl ⟨by rfl, ?y18x48⟩) hHeld ?r18x48
              case y18x48 => (intro wS hSw; obtain ⟨s1, s2, s3⟩ := hSw; go_simp; try with_reducible rfl)
              try simp only [Act.put, List.setIfInBounds_toArray, List.set_cons_zero, List.set_cons_succ]
              refine wpAnyG_take (i := 19) (v := .int .i64 t6) rfl (by kernel_rfl) (fun _ _ _ h => h) (Or.inl ⟨by kernel_rfl, ?y19x49⟩) hHeld ?r19x49
              case y19x49 => (intro wS hSw; (go_simp; try simp only [e6, ew6]))
              try simp only [Act.put, List.setIfInBounds_toArray, List.set_cons_zero, List.set_cons_succ]
              refine wpAnyG_take (i := 21) (v := ?v21x50) rfl (by kernel_rfl) (fun _ _ _ h => h) (Or.inl ⟨by rfl, ?y21x50⟩) hHeld ?r21x50
              case y21x50 => (intro wS hSw; obtain ⟨s1, s2, s3⟩ := hSw; go_simp; try with_reducible rfl)
              try simp only [Act.put, List.setIfInBounds_toArray, List.set_cons_zero, List.set_cons_succ]
              refine wpAnyG_one (i := 8) rfl (by kernel_rfl) (fun K hK => ?_)
              go_simp
              refine (HS.out _).mono ?_
              rintro e w4 ⟨rfl, rfl⟩
              refine hK.out _ _ hHeld ?_
              clear hK K
              try simp only [Act.put, List.setIfInBounds_toArray, List.set_cons_zero, List.set_cons_succ]
              refine wpAnyG_take (i := 10) (v := .int .i64 t3) rfl (by kernel_rfl) (fun _ _ _ h => h) (Or.inl ⟨by kernel_rfl, ?y10x51⟩) hHeld ?r10x51
              case y10x51 => (intro wS hSw; (go_simp; try simp only [e3, ew3]))
              try simp only [Act.put, List.setIfInBounds_toArray, List.set_cons_zero, List.set_cons_succ]
              refine wpAnyG_take (i := 12) (v := .int .i64 t4) rfl (by kernel_rfl) (fun _ _ _ h => h) (Or.inl ⟨by kernel_rfl, ?y12x52⟩) hHeld ?r12x52
              case y12x52 => (intro wS hSw; (go_simp; try simp only [e4, ew4]))
              try simp only [Act.put, List.setIfInBounds_toArray, List.set_cons_zero, List.set_cons_succ]
              refine wpAnyG_take (i := 13) (v := .int .i64 (t2 - t4)) rfl (by kernel_rfl) (fun _ _ _ h => h) (Or.inl ⟨by kernel_rfl, ?y13x53⟩) hHeld ?r13x53
              case y13x53 => (intro wS hSw; (go_simp; try simp only [ew9]))
              try simp only [Act.put, List.setIfInBounds_toArray, List.set_cons_zero, List.set_cons_succ]
              refine wpAnyG_take (i := 20) (v := .int .i64 (t2 - t4 + t6)) rfl (by kernel_rfl) (fun _ _ _ h => h) (Or.inl ⟨by kernel_rfl, ?y20x54⟩) hHeld ?r20x54
              case y20x54 => (intro wS hSw; (go_simp; try simp only [ew10]))
              try simp only [Act.put, List.setIfInBounds_toArray, List.set_cons_zero, List.set_cons_succ]
              refine wpAnyG_take (i := 22) (v := .bool true) rfl (by kernel_rfl) (fun _ _ _ h => h) (Or.inl ⟨by kernel_rfl, ?y22x55⟩) hHeld ?r22x55
              case y22x55 => (intro wS hSw; (go_simp; try rfl))
              try simp only [Act.put, List.setIfInBounds_toArray, List.set_cons_zero, List.set_cons_succ]
              refine wpAnyG_take (i := 23) (v := .bool true) rfl (by kernel_rfl) (fun _ _ _ h => h) (Or.inl ⟨by kernel_rfl, ?y23x56⟩) hHeld ?r23x56
              case y23x56 => (intro wS hSw; (go_simp; try rfl))
              try simp only [Act.put, List.setIfInBounds_toArray, List.set_cons_zero, List.set_cons_succ]
              refine wpAnyG_take (i := 24) (v := ?v24x57) rfl (by kernel_rfl) (fun _ _ _ h => h) (Or.inl ⟨by kernel_rfl, ?y24x57⟩) hHeld ?r24x57
              case y24x57 => (intro wS hSw; have s1 := hSw; go_simp; try with_reducible rfl)
              try simp only [Act.put, List.setIfInBounds_toArray, List.set_cons_zero, List.set_cons_succ]
              refine wpAnyG_take (i := 25) (v := ?v25x58) rfl (by kernel_rfl) (fun _ _ _ h => h) (Or.inl ⟨by kernel_rfl, ?y25x58⟩) hHeld ?r25x58
              case y25x58 => (intro wS hSw; have s1 := hSw; go_simp; try with_reducible rfl)
              try simp only [Act.put, List.setIfInBounds_toArray, List.set_cons_zero, List.set_cons_succ]
              refine wpAnyG_take (i := 26) (v := .int .i64 (2 * g.a)) rfl (by kernel_rfl) (fun _ _ _ h => h) (Or.inl ⟨by kernel_rfl, ?y26x59⟩) hHeld ?r26x59
              case y26x59 => (intro wS hSw; (go_simp; try simp only [ew11]))
              try simp only [Act.put, List.setIfInBounds_toArray, List.set_cons_zero, List.set_cons_succ]
              refine wpAnyG_take (i := 27) (v := ?v27x60) rfl (by kernel_rfl) (fun _ _ _ h => h) (Or.inl ⟨by kernel_rfl, ?y27x60⟩) hHeld ?r27x60
              case y27x60 => (intro wS hSw; have s1 := hSw; go_simp; try with_reducible rfl)
              try simp only [Act.put, List.setIfInBounds_toArray, List.set_cons_zero, List.set_cons_succ]
              refine wpAnyG_take (i := 28) (v := .int .i64 t7) rfl (by kernel_rfl) (fun _ _ _ h => h) (Or.inl ⟨by kernel_rfl, ?y28x61⟩) hHeld ?r28x61
              case y28x61 => (intro wS hSw; (go_simp; try simp only [e7, ew7]))
              try simp only [Act.put, List.setIfInBounds_toArray, List.set_cons_zero, List.set_cons_succ]
              refine wpAnyG_take (i := 29) (v := ?v29x62) rfl (by kernel_rfl) (fun _ _ _ h => h) (Or.inl ⟨by kernel_rfl, ?y29x62⟩) hHeld ?r29x62
              case y29x62 => (intro wS hSw; have s1 := hSw; go_simp; try with_reducible rfl)
              try simp only [Act.put, List.setIfInBounds_toArray, List.set_cons_zero, List.set_cons_succ]
              refine wpAnyG_take (i := 30) (v := ?v30x63) rfl (by kernel_rfl) (fun _ _ _ h => h) (Or.inl ⟨by kernel_rfl, ?y30x63⟩) hHeld ?r30x63
              case y30x63 => (intro wS hSw; have s1 := hSw; go_simp; try with_reducible rfl)
              try simp only [Act.put, List.setIfInBounds_toArray, List.set_cons_zero, List.set_cons_succ]
              refine wpAnyG_take (i := 32) (v := ?v32x64) rfl (by kernel_rfl) (fun _ _ _ h => h) (Or.inl ⟨by kernel_rfl, ?y32x64⟩) hHeld ?r32x64
              case y32x64 => (intro wS hSw; have s1 := hSw; go_simp; try with_reducible rfl)
              try simp only [Act.put, List.setIfInBounds_toArray, List.set_cons_zero, List.set_cons_succ]
              refine wpAnyG_one (i := 31) rfl (by kernel_rfl) (fun K hK => ?_)
              rw [if_pos (by kernel_rfl)]
              go_simp
              refine (HS.out _).mono ?_
              rintro e w4 ⟨rfl, rfl⟩
              refine hK.out _ _ hHeld ?_
              clear hK K
              try simp only [Act.put, List.setIfInBounds_toArray, List.set_cons_zero, List.set_cons_succ]
              refine wpAnyG_take (i := 33) (v := .int .i64 t8) rfl (by kernel_rfl) (fun _ _ _ h => h) (Or.inl ⟨by kernel_rfl, ?y33x65⟩) hHeld ?r33x65
              case y33x65 => (intro wS hSw; (go_simp; try simp only [e8, ew8]))
              try simp only [Act.put, List.setIfInBounds_toArray, List.set_cons_zero, List.set_cons_succ]
              refine wpAnyG_take (i := 34) (v := .bool false) rfl (by kernel_rfl) (fun _ _ _ h => h) (Or.inl ⟨by kernel_rfl, ?y34x66⟩) hHeld ?r34x66
              case y34x66 => (intro wS hSw; (go_simp; try rfl))
              try simp only [Act.put, List.setIfInBounds_toArray, List.set_cons_zero, List.set_cons_succ]
              refine wpAnyG_last (i := 35) rfl (by kernel_rfl) (by kernel_rfl) (fun K hK => ?_)
              go_simp
              refine hK.out _ _ ?_
              clear hK K
              try simp only [Act.put, List.setIfInBounds_toArray, List.set_cons_zero, List.set_cons_succ]
              refine wpAnyG_done (by kernel_rfl) ?_ _
              have HM4 : Hid (Cl w.heap.size g.l 32 wr.drew ∧ Below w.heap.size w wr.drew) := ⟨HM.out.1, HM.out.2.drew⟩
              clear hHeld
              go_wp2
              go_meet
              exact ⟨by first | rfl | (rw [HBB.out]; simp [bb1, bb2]), HM4.out⟩
          · have bb1 : decide (n < t2 - t4 + t6) = false := decide_eq_false hb1
            refine wp_region_G (fun W => W.cell? ⟨w.heap.size, 0, none⟩ = some (.int .i64 g.a) ∧ W.cell? ⟨w.heap.size, 1, none⟩ = some (.int .i64 g.b) ∧ W.cell? ⟨w.heap.size, 2, none⟩ = some (.int .i64 g.c)) 35 (by kernel_rfl) ⟨c0, c1, c2⟩ (fun hHeld => ?_)
            refine wpAnyG_take (i := 0) (v := ?v0x67) rfl (by kernel_rfl) (fun _ _ _ h => h) (Or.inl ⟨by rfl, ?y0x67⟩) hHeld ?r0x67
            case y0x67 => (intro wS hSw; obtain ⟨s1, s2, s3⟩ := hSw; go_simp; try with_reducible rfl)
            try simp only [Act.put, List.setIfInBounds_toArray, List.set_cons_zero, List.set_cons_succ]
            refine wpAnyG_take (i := 1) (v := ?v1x68) rfl (by kernel_rfl) (fun _ _ _ h => h) (Or.inl ⟨by rfl, ?y1x68⟩) hHeld ?r1x68
            case y1x68 => (intro wS hSw; obtain ⟨s1, s2, s3⟩ := hSw; go_simp; try with_reducible rfl)
            try simp only [Act.put, List.setIfInBounds_toArray, List.set_cons_zero, List.set_cons_succ]
            refine wpAnyG_take (i := 2) (v := ?v2x69) rfl (by kernel_rfl) (fun _ _ _ h => h) (Or.inl ⟨by rfl, ?y2x69⟩) hHeld ?r2x69
            case y2x69 => (intro wS hSw; obtain ⟨s1, s2, s3⟩ := hSw; go_simp; try with_reducible rfl)
            try simp only [Act.put, List.setIfInBounds_toArray, List.set_cons_zero, List.set_cons_succ]
            refine wpAnyG_take (i := 3) (v := .int .i64 t1) rfl (by kernel_rfl) (fun _ _ _ h => h) (Or.inl ⟨by kernel_rfl, ?y3x70⟩) hHeld ?r3x70
            case y3x70 => (intro wS hSw; (go_simp; try simp only [e1, ew1]))
            try simp only [Act.put, List.setIfInBounds_toArray, List.set_cons_zero, List.set_cons_succ]
            refine wpAnyG_take (i := 4) (v := ?v4x71) rfl (by kernel_rfl) (fun _ _ _ h => h) (Or.inl ⟨by rfl, ?y4x71⟩) hHeld ?r4x71
            case y4x71 => (intro wS hSw; obtain ⟨s1, s2, s3⟩ := hSw; go_simp; try with_reducible rfl)
            try simp only [Act.put, List.setIfInBounds_toArray, List.set_cons_zero, List.set_cons_succ]
            refine wpAnyG_take (i := 5) (v := .int .i64 t2) rfl (by kernel_rfl) (fun _ _ _ h => h) (Or.inl ⟨by kernel_rfl, ?y5x72⟩) hHeld ?r5x72
            case y5x72 => (intro wS hSw; (go_simp; try simp only [e2, ew2]))
            try simp only [Act.put, List.setIfInBounds_toArray, List.set_cons_zero, List.set_cons_succ]
            refine wpAnyG_take (i := 6) (v := ?v6x73) rfl (by kernel_rfl) (fun _ _ _ h => h) (Or.inl ⟨by rfl, ?y6x73⟩) hHeld ?r6x73
            case y6x73 => (intro wS hSw; obtain ⟨s1, s2, s3⟩ := hSw; go_simp; try with_reducible rfl)
            try simp only [Act.put, List.setIfInBounds_toArray, List.set_cons_zero, List.set_cons_succ]
            refine wpAnyG_take (i := 7) (v := ?v7x74) rfl (by kernel_rfl) (fun _ _ _ h => h) (Or.inl ⟨by rfl, ?y7x74⟩) hHeld ?r7x74
            case y7x74 => (intro wS hSw; obtain ⟨s1, s2, s3⟩ := hSw; go_simp; try with_reducible rfl)
            try simp only [Act.put, List.setIfInBounds_toArray, List.set_cons_zero, List.set_cons_succ]
            refine wpAnyG_take (i := 9) (v := ?v9x75) rfl (by kernel_rfl) (fun _ _ _ h => h) (Or.inl ⟨by rfl, ?y9x75⟩) hHeld ?r9x75
            case y9x75 => (intro wS hSw; obtain ⟨s1, s2, s3⟩ := hSw; go_simp; try with_reducible rfl)
            try simp only [Act.put, List.setIfInBounds_toArray, List.set_cons_zero, List.set_cons_succ]
            refine wpAnyG_take (i := 11) (v := ?v11x76) rfl (by kernel_rfl) (fun _ _ _ h => h) (Or.inl ⟨by rfl, ?y11x76⟩) hHeld ?r11x76
            case y11x76 => (intro wS hSw; obtain ⟨s1, s2, s3⟩ := hSw; go_simp; try with_reducible rfl)
            try simp only [Act.put, List.setIfInBounds_toArray, List.set_cons_zero, List.set_cons_succ]
            refine wpAnyG_take (i := 14) (v := ?v14x77) rfl (by kernel_rfl) (fun _ _ _ h => h) (Or.inl ⟨by rfl, ?y14x77⟩) hHeld ?r14x77
            case y14x77 => (intro wS hSw; obtain ⟨s1, s2, s3⟩ := hSw; go_simp; try with_reducible rfl)
            try simp only [Act.put, List.setIfInBounds_toArray, List.set_cons_zero, List.set_cons_succ]
            refine wpAnyG_take (i := 15) (v := ?v15x78) rfl (by kernel_rfl) (fun _ _ _ h => h) (Or.inl ⟨by rfl, ?y15x78⟩) hHeld ?r15x78
            case y15x78 => (intro wS hSw; obtain ⟨s1, s2, s3⟩ := hSw; go_simp; try with_reducible rfl)
            try simp only [Act.put, List.setIfInBounds_toArray, List.set_cons_zero, List.set_cons_succ]
            refine wpAnyG_take (i := 16) (v := ?v16x79) rfl (by kernel_rfl) (fun _ _ _ h => h) (Or.inl ⟨by rfl, ?y16x79⟩) hHeld ?r16x79
            case y16x79 => (intro wS hSw; obtain ⟨s1, s2, s3⟩ := hSw; go_simp; try with_reducible rfl)
            try simp only [Act.put, List.setIfInBounds_toArray, List.set_cons_zero, List.set_cons_succ]
            refine wpAnyG_take (i := 17) (v := .int .i64 t5) rfl (by kernel_rfl) (fun _ _ _ h => h) (Or.inl ⟨by kernel_rfl, ?y17x80⟩) hHeld ?r17x80
            case y17x80 => (intro wS hSw; (go_simp; try simp only [e5, ew5]))
            try simp only [Act.put, List.setIfInBounds_toArray, List.set_cons_zero, List.set_cons_succ]
            refine wpAnyG_take (i := 18) (v := ?v18x81) rfl (by kernel_rfl) (fun _ _ _ h => h) (Or.inl ⟨by rfl, ?y18x81⟩) hHeld ?r18x81
            case y18x81 => (intro wS hSw; obtain ⟨s1, s2, s3⟩ := hSw; go_simp; try with_reducible rfl)
            try simp only [Act.put, List.setIfInBounds_toArray, List.set_cons_zero, List.set_cons_succ]
            refine wpAnyG_take (i := 19) (v := .int .i64 t6) rfl (by kernel_rfl) (fun _ _ _ h => h) (Or.inl ⟨by kernel_rfl, ?y19x82⟩) hHeld ?r19x82
            case y19x82 => (intro wS hSw; (go_simp; try simp only [e6, ew6]))
            try simp only [Act.put, List.setIfInBounds_toArray, List.set_cons_zero, List.set_cons_succ]
            refine wpAnyG_take (i := 21) (v := ?v21x83) rfl (by kernel_rfl) (fun _ _ _ h => h) (Or.inl ⟨by rfl, ?y21x83⟩) hHeld ?r21x83
            case y21x83 => (intro wS hSw; obtain ⟨s1, s2, s3⟩ := hSw; go_simp; try with_reducible rfl)
            try simp only [Act.put, List.setIfInBounds_toArray, List.set_cons_zero, List.set_cons_succ]
            refine wpAnyG_one (i := 8) rfl (by kernel_rfl) (fun K hK => ?_)
            go_simp
            refine (HS.out _).mono ?_
            rintro e w4 ⟨rfl, rfl⟩
            refine hK.out _ _ hHeld ?_
            clear hK K
            try simp only [Act.put, List.setIfInBounds_toArray, List.set_cons_zero, List.set_cons_succ]
            refine wpAnyG_take (i := 10) (v := .int .i64 t3) rfl (by kernel_rfl) (fun _ _ _ h => h) (Or.inl ⟨by kernel_rfl, ?y10x84⟩) hHeld ?r10x84
            case y10x84 => (intro wS hSw; (go_simp; try simp only [e3, ew3]))
            try simp only [Act.put, List.setIfInBounds_toArray, List.set_cons_zero, List.set_cons_succ]
            refine wpAnyG_take (i := 12) (v := .int .i64 t4) rfl (by kernel_rfl) (fun _ _ _ h => h) (Or.inl ⟨by kernel_rfl, ?y12x85⟩) hHeld ?r12x85
            case y12x85 => (intro wS hSw; (go_simp; try simp only [e4, ew4]))
            try simp only [Act.put, List.setIfInBounds_toArray, List.set_cons_zero, List.set_cons_succ]
            refine wpAnyG_take (i := 13) (v := .int .i64 (t2 - t4)) rfl (by kernel_rfl) (fun _ _ _ h => h) (Or.inl ⟨by kernel_rfl, ?y13x86⟩) hHeld ?r13x86
            case y13x86 => (intro wS hSw; (go_simp; try simp only [ew9]))
            try simp only [Act.put, List.setIfInBounds_toArray, List.set_cons_zero, List.set_cons_succ]
            refine wpAnyG_take (i := 20) (v := .int .i64 (t2 - t4 + t6)) rfl (by kernel_rfl) (fun _ _ _ h => h) (Or.inl ⟨by kernel_rfl, ?y20x87⟩) hHeld ?r20x87
            case y20x87 => (intro wS hSw; (go_simp; try simp only [ew10]))
            try simp only [Act.put, List.setIfInBounds_toArray, List.set_cons_zero, List.set_cons_succ]
            refine wpAnyG_take (i := 22) (v := .bool false) rfl (by kernel_rfl) (fun _ _ _ h => h) (Or.inl ⟨by kernel_rfl, ?y22x88⟩) hHeld ?r22x88
            case y22x88 => (intro wS hSw; (go_simp; try rfl))
            try simp only [Act.put, List.setIfInBounds_toArray, List.set_cons_zero, List.set_cons_succ]
            refine wpAnyG_take (i := 23) (v := .bool false) rfl (by kernel_rfl) (fun _ _ _ h => h) (Or.inl ⟨by kernel_rfl, ?y23x89⟩) hHeld ?r23x89
            case y23x89 => (intro wS hSw; (go_simp; try rfl))
            try simp only [Act.put, List.setIfInBounds_toArray, List.set_cons_zero, List.set_cons_succ]
            refine wpAnyG_take (i := 24) (v := undef) rfl (by kernel_rfl) (fun _ _ _ h => h) (Or.inr ⟨by kernel_rfl, rfl⟩) hHeld ?_
            try simp only [Act.put, List.setIfInBounds_toArray, List.set_cons_zero, List.set_cons_succ]
            refine wpAnyG_take (i := 25) (v := undef) rfl (by kernel_rfl) (fun _ _ _ h => h) (Or.inr ⟨by kernel_rfl, rfl⟩) hHeld ?_
            try simp only [Act.put, List.setIfInBounds_toArray, List.set_cons_zero, List.set_cons_succ]
            refine wpAnyG_take (i := 26) (v := undef) rfl (by kernel_rfl) (fun _ _ _ h => h) (Or.inr ⟨by kernel_rfl, rfl⟩) hHeld ?_
            try simp only [Act.put, List.setIfInBounds_toArray, List.set_cons_zero, List.set_cons_succ]
            refine wpAnyG_take (i := 27) (v := undef) rfl (by kernel_rfl) (fun _ _ _ h => h) (Or.inr ⟨by kernel_rfl, rfl⟩) hHeld ?_
            try simp only [Act.put, List.setIfInBounds_toArray, List.set_cons_zero, List.set_cons_succ]
            refine wpAnyG_take (i := 28) (v := undef) rfl (by kernel_rfl) (fun _ _ _ h => h) (Or.inr ⟨by kernel_rfl, rfl⟩) hHeld ?_
            try simp only [Act.put, List.setIfInBounds_toArray, List.set_cons_zero, List.set_cons_succ]
            refine wpAnyG_take (i := 29) (v := undef) rfl (by kernel_rfl) (fun _ _ _ h => h) (Or.inr ⟨by kernel_rfl, rfl⟩) hHeld ?_
            try simp only [Act.put, List.setIfInBounds_toArray, List.set_cons_zero, List.set_cons_succ]
            refine wpAnyG_take (i := 30) (v := undef) rfl (by kernel_rfl) (fun _ _ _ h => h) (Or.inr ⟨by kernel_rfl, rfl⟩) hHeld ?_
            try simp only [Act.put, List.setIfInBounds_toArray, List.set_cons_zero, List.set_cons_succ]
            refine wpAnyG_take (i := 31) (v := undef) rfl (by kernel_rfl) (fun _ _ _ h => h) (Or.inr ⟨by kernel_rfl, rfl⟩) hHeld ?_
            try simp only [Act.put, List.setIfInBounds_toArray, List.set_cons_zero, List.set_cons_succ]
            refine wpAnyG_take (i := 32) (v := undef) rfl (by kernel_rfl) (fun _ _ _ h => h) (Or.inr ⟨by kernel_rfl, rfl⟩) hHeld ?_
            try simp only [Act.put, List.setIfInBounds_toArray, List.set_cons_zero, List.set_cons_succ]
            refine wpAnyG_take (i := 33) (v := undef) rfl (by kernel_rfl) (fun _ _ _ h => h) (Or.inr ⟨by kernel_rfl, rfl⟩) hHeld ?_
            try simp only [Act.put, List.setIfInBounds_toArray, List.set_cons_zero, List.set_cons_succ]
            refine wpAnyG_take (i := 34) (v := undef) rfl (by kernel_rfl) (fun _ _ _ h => h) (Or.inr ⟨by kernel_rfl, rfl⟩) hHeld ?_
            try simp only [Act.put, List.setIfInBounds_toArray, List.set_cons_zero, List.set_cons_succ]
            refine wpAnyG_last (i := 35) rfl (by kernel_rfl) (by kernel_rfl) (fun K hK => ?_)
            go_simp
            refine hK.out _ _ ?_
            clear hK K
            try simp only [Act.put, List.setIfInBounds_toArray, List.set_cons_zero, List.set_cons_succ]
            refine wpAnyG_done (by kernel_rfl) ?_ _
            have HM4 : Hid (Cl w.heap.size g.l 32 wr.drew ∧ Below w.heap.size w wr.drew) := ⟨HM.out.1, HM.out.2.drew⟩
            clear hHeld
            go_wp2
            go_meet
            exact ⟨by first | rfl | (rw [HBB.out]; simp [bb1]), HM4.out⟩
        case rest =>
          obtain ⟨rfl, HC⟩ := hcut
          clear HM ew1 ew2 ew3 ew4 ew5 ew6 ew7 ew8 ew9 ew10 ew11 e1 e2 e3 e4 e5 e6 e7 e8
          have hbv := HBB.out
          cases BB
          · have hnot : ¬ (n < t2 - t4 + t6 ∧ t8 < t7) := by
              intro hh
              rw [decide_eq_true hh.1, decide_eq_true hh.2] at hbv
              cases hbv
            have hx24 : x < 2400 := by
              rcases Nat.lt_or_ge x 2400 with hh | hh
              · exact hh
              · exfalso
                obtain rfl : x = 2400 := by omega
                have hxt := x_top (g := g) (n := n) (y := y) HG.out.1 hga.1 hn.2 (by omega)
                rw [← HSS.out] at hxt
                have hvl := HVal.out
                push_cast at hvl
                have h2400 : ((2400 : Nat) : Int) = 2400 := rfl
                omega
            clear hnot hbv HBB ht1 ht2 ht3 ht4 ht5 ht6 ht7 ht8
            go_wp2
            go_loopg [5, 9] 4 (fun lk mv sv wx => ∃ (s : Nat) (M3 : Int), mv = .int .i64 M3 ∧ sv = .int .i64 s ∧ s ≤ 4 ∧ Hid (lk = 4 - s ∧ M3 = ((allP g n (fun _ => 2400) y ++ rowP g n y x ++ quad4 g n x y s).length : Int) ∧ Cl w.heap.size g.l 32 wx ∧ Below w.heap.size w wx))
            case atStart => exact ⟨0, M2, rfl, rfl, by omega, rfl, by rw [HML2.out]; simp [quad4], HC.out⟩
            case round =>
              clear HC
              obtain ⟨s, M3, rfl, rfl, hs, HR3⟩ := hrel
              have HLk : Hid (gk = 4 - s) := HR3.out.1
              have HML : Hid (M3 = ((allP g n (fun _ => 2400) y ++ rowP g n y x ++ quad4 g n x y s).length : Int)) := HR3.out.2.1
              have HMM : Hid (Cl w.heap.size g.l 32 wr ∧ Below w.heap.size w wr) := HR3.out.2.2
              have hM3 : 0 ≤ M3 ∧ M3 ≤ 20000000 := by
                have h1 := allP_len g n y
                have h2 := rowP_len g n y x
                have h3 := quad4_len g n x y s
                have h4 := HML.out
                rw [List.length_append, List.length_append] at h4
                push_cast at h4
                omega
              clear HR3
              by_cases hs4 : s = 4
              · subst hs4
                have HN : Hid (M3 = ((allP g n (fun _ => 2400) y ++ rowP g n y (x + 1)).length : Int)) := by show _ = _; rw [rowP_succ, ← List.append_assoc]; exact HML.out
                go_wp2
                go_roundg (2401 - (x + 1))
                case rel => exact ⟨x + 1, M3, rfl, by go_num, by omega, rfl, HN.out, HMM.out⟩
                case measure => have := HHk.out; omega
              · have hs3 : decide ((s : Int) < 4) = true := decide_eq_true (by omega)
                have HSl : Hid (s < 4) := (show s < 4 by omega)
                have hsi : (s : Int) ≤ 3 := by omega
                obtain ⟨p, hp⟩ : ∃ p : Int, p = if s % 2 = 1 then -(x : Int) else x := ⟨_, rfl⟩
                obtain ⟨q, hq⟩ : ∃ q : Int, q = if 1 < s then -(y : Int) else y := ⟨_, rfl⟩
                have HP : Hid ((if s % 2 = 1 then -(x : Int) else x) = p) := hp.symm
                have HQ : Hid ((if 1 < s then -(y : Int) else y) = q) := hq.symm
                have hpb : -3000 ≤ p ∧ p ≤ 3000 := by rw [hp]; split <;> omega
                have hqb : -3000 ≤ q ∧ q ≤ 3000 := by rw [hq]; split <;> omega
                obtain ⟨BS, hBS⟩ : ∃ b : Bool, ((s : Int) % 2 == 1) = b := ⟨_, rfl⟩
                obtain ⟨BT, hBT⟩ : ∃ b : Bool, decide (1 < (s : Int)) = b := ⟨_, rfl⟩
                have HBS : Hid (BS = true ↔ s % 2 = 1) := by
                  show BS = true ↔ s % 2 = 1
                  rw [← hBS, beq_iff_eq]
                  omega
                have HBT : Hid (BT = true ↔ 1 < s) := by
                  show BT = true ↔ 1 < s
                  rw [← hBT, decide_eq_true_eq]
                  omega
                clear hp hq hs hs4
                go_upto_if 74 with fail
                go_cut [10] from 66 to 103 (fun pv wx => pv = .int .i64 p ∧ wx = wr)
                case first =>
                  cases BS
                  · have hpe : p = (x : Int) := by rw [← HP.out, if_neg (fun h => by have := HBS.out.2 h; cases this)]
                    go_wp2
                    go_meet
                    exact ⟨by rw [hpe], rfl⟩
                  · have hpe : p = -(x : Int) := by rw [← HP.out, if_pos (HBS.out.1 rfl)]
                    go_wp2
                    go_meet
                    exact ⟨by rw [hpe], rfl⟩
                case rest =>
                  obtain ⟨rfl, rfl⟩ := hcut
                  go_upto_if 78 with fail
                  go_cut [11] from 66 to 103 (fun pv wx => pv = .int .i64 q ∧ wx = wc)
                  case first =>
                    cases BT
                    · have hpe : q = (y : Int) := by rw [← HQ.out, if_neg (fun h => by have := HBT.out.2 h; cases this)]
                      go_wp2
                      go_meet
                      exact ⟨by rw [hpe], rfl⟩
                    · have hpe : q = -(y : Int) := by rw [← HQ.out, if_pos (HBT.out.1 rfl)]
                      go_wp2
                      go_meet
                      exact ⟨by rw [hpe], rfl⟩
                  case rest =>
                    obtain ⟨rfl, rfl⟩ := hcut
                    obtain ⟨SK, hSK⟩ : ∃ b : Bool, b = ((((x : Int) == 0) && BS) || (((y : Int) == 0) && BT)) := ⟨_, rfl⟩
                    have HSK : Hid (SK = true ↔ ((x = 0 ∧ s % 2 = 1) ∨ (y = 0 ∧ 1 < s))) := by
                      show SK = true ↔ _
                      rw [hSK, Bool.or_eq_true, Bool.and_eq_true, Bool.and_eq_true, HBS.out, HBT.out, beq_iff_eq, beq_iff_eq]
                      omega
                    have HSK2 : Hid (SK = ((((x : Int) == 0) && BS) || (((y : Int) == 0) && BT))) := hSK
                    clear hSK
                    obtain ⟨X0, hX0⟩ : ∃ b : Bool, ((x : Int) == 0) = b := ⟨_, rfl⟩
                    obtain ⟨Y0, hY0⟩ : ∃ b : Bool, ((y : Int) == 0) = b := ⟨_, rfl⟩
                    rw [hX0, hY0] at HSK2
                    go_upto_region 18 with fail
                    go_cut [95] from 66 to 103 (fun pv wx => pv = .bool SK ∧ wx = wc)
                    case first =>
                      cases X0 <;> cases Y0 <;> cases BS <;> cases BT
                      all_goals
                        go_wp2
                        go_meet
                        exact ⟨by first | rfl | (rw [HSK2.out]; rfl), rfl⟩
                    case rest =>
                      obtain ⟨rfl, rfl⟩ := hcut
                      clear hX0 hY0 hBS hBT HSK2 HBS HBT
                      cases SK
                      · have hc : ¬((x = 0 ∧ s % 2 = 1) ∨ (y = 0 ∧ 1 < s)) := fun h => by have := HSK.out.2 h; cases this
                        have HVp := HV.out p q
                        obtain ⟨vv, hvv⟩ : ∃ vv, g.at p q = vv := ⟨_, rfl⟩
                        rw [hvv] at HVp
                        have HVq : Hid (∀ w, Calls Try.prog 37 #[.agg #[.int .i64 g.a, .int .i64 g.b, .int .i64 g.c], .int .i64 p, .int .i64 q] w fun e w' => e = .returned (.int .i64 vv) ∧ Below w.heap.size w w') := fun w => HVp w hpb hqb
                        have HVV : Hid (g.at p q = vv) := hvv
                        clear HVp hvv
                        have c0 := HMM.out.1.cell 0
                        have c1 := HMM.out.1.cell 1
                        have c2 := HMM.out.1.cell 2
                        simp at c0 c1 c2
                        cases hve : (vv == n)
                        · have hpk := pk_no g n x y s p q hc HP.out HQ.out (by rw [HVV.out]; simpa using hve)
                          have HN : Hid (M3 = ((allP g n (fun _ => 2400) y ++ rowP g n y x ++ quad4 g n x y (s + 1)).length : Int)) := by show _ = _; rw [quad4_succ, ← List.append_assoc, List.length_append, hpk]; have := HML.out; push_cast; omega
                          clear hpk hc
                          go_wp2_with fail
                          refine (HVq.out _).mono ?_
                          rintro e w5 ⟨rfl, k5⟩
                          have HMM5 : Hid (Cl w.heap.size g.l 32 w5 ∧ Below w.heap.size w w5) := ⟨HMM.out.1.below k5, HMM.out.2.trans (k5.mono HMM.out.2.size)⟩
                          clear k5 c0 c1 c2
                          go_wp2
                          go_roundg (4 - (s + 1))
                          case rel => exact ⟨s + 1, M3, rfl, by go_num, (by have := HSl.out; omega), rfl, HN.out, HMM5.out⟩
                          case measure => have := HLk.out; have := HSl.out; omega
                        · have hpk := pk_yes g n x y s p q hc HP.out HQ.out (by rw [HVV.out]; simpa using hve)
                          have HN : Hid (M3 + 1 = ((allP g n (fun _ => 2400) y ++ rowP g n y x ++ quad4 g n x y (s + 1)).length : Int)) := by show _ = _; rw [quad4_succ, ← List.append_assoc, List.length_append, hpk]; have := HML.out; push_cast; omega
                          clear hpk hc
                          go_wp2_with fail
                          refine (HVq.out _).mono ?_
                          rintro e w5 ⟨rfl, k5⟩
                          have HMM5 : Hid (Cl w.heap.size g.l 32 w5 ∧ Below w.heap.size w w5) := ⟨HMM.out.1.below k5, HMM.out.2.trans (k5.mono HMM.out.2.size)⟩
                          clear k5 c0 c1 c2
                          go_wp2
                          go_roundg (4 - (s + 1))
                          case rel => exact ⟨s + 1, M3 + 1, rfl, by go_num, (by have := HSl.out; omega), rfl, HN.out, HMM5.out⟩
                          case measure => have := HLk.out; have := HSl.out; omega
                      · have hpk := pk_skip g n x y s (HSK.out.1 rfl)
                        have HN : Hid (M3 = ((allP g n (fun _ => 2400) y ++ rowP g n y x ++ quad4 g n x y (s + 1)).length : Int)) := by show _ = _; rw [quad4_succ, hpk, List.append_nil]; exact HML.out
                        clear hpk
                        go_wp2
                        go_roundg (4 - (s + 1))
                        case rel => exact ⟨s + 1, M3, rfl, by go_num, (by have := HSl.out; omega), rfl, HN.out, HMM.out⟩
                        case measure => have := HLk.out; have := HSl.out; omega
          · have hboth : n < t2 - t4 + t6 ∧ t8 < t7 := by
              have h3 := hbv.symm
              rw [Bool.and_eq_true, decide_eq_true_eq, decide_eq_true_eq] at h3
              exact h3
            have HEnd : Hid (rowP g n y 2400 = rowP g n y x) := rowP_end hga.1 (by rw [← HSS.out, HVal.out.1]; exact hboth.1) (by rw [← HSS.out, HVal.out.2.1, HVal.out.2.2]; exact hboth.2) 2400 hx
            clear hbv HBB hboth ht1 ht2 ht3 ht4 ht5 ht6 ht7 ht8
            go_wp2
            go_roundg (1200 - (y + 1))
            case rel => exact ⟨y + 1, M2, rfl, by go_num, by omega, rfl, by rw [allP_succ, HEnd.out]; exact HML2.out, HC.out⟩
            case measure => have := HGk.out; omega
    · have hlb : decide (T2 ≤ T3) = false := decide_eq_false hle
      go_wp2
      go_ret
      have hfin : T3 < D * ((y : Int) * y) := by
        have := HT.out.1
        rw [Int.mul_assoc] at this
        omega
      refine ⟨⟨y, by rw [← HR.out.2.1]; rfl, ?_⟩, HR.out.2.2.2⟩
      first
        | exact hfin
        | (rw [HD.out, ← HT.out.2]; exact hfin)
        | (rw [HD.out]; exact hfin)

end Go.Proofs.Ytijkanilpblogae
