/- ContSurds: the way where the list is too long. -/
import Derived.Test.YtpgedkdaflgfoafGreatDoorContSurdsWa
set_option linter.unusedSimpArgs false
set_option linter.unusedVariables false
set_option maxRecDepth 100000
namespace Go.Proofs.YtpgedkdaflgfoafGreatDoor
open Go.RowKit LgM CfM

set_option maxHeartbeats 4000000 in
theorem cs_much (n r : Nat) (w : World) (hR : Rn n r) (hn : n ≤ 1000000) (hno : ∀ i, i < 1000 → (cs n r i).2 ≠ 1) (hT : Tq w)
    (hSu : ∀ w, Calls Tryz.prog 12 #[.int .i64 (n : Int)] w fun e w' => e = .returned (.tuple #[.int .i64 0, .slice none 0 0, .agg #[.int .i64 9, .int .i64 0]]) ∧ Below w.heap.size w w')
    (hPe : ∀ w, Tq w → Calls Tryz.prog 13 #[.int .i64 (n : Int)] w fun e w' => e = .returned (.tuple #[.string ⟨#[]⟩, .string ⟨#[]⟩, .agg #[.int .i64 9, .int .i64 0]]) ∧ Below w.heap.size w w')
    (hSf : ∀ w, Calls Tryz.prog 14 #[.int .i64 (n : Int)] w fun e w' => e = .returned (.agg #[.int .i64 0, .int .i64 0]) ∧ Below w.heap.size w w') :
    Calls Tryz.prog 4 #[.int .i64 (n : Int)] w fun e w' => e = .returned (.bool true) ∧ Below w.heap.size w w' := by
  have HT : Hid (Tq w) := hT
  have HSu : Hid (∀ w, Calls Tryz.prog 12 #[.int .i64 (n : Int)] w fun e w' => e = .returned (.tuple #[.int .i64 0, .slice none 0 0, .agg #[.int .i64 9, .int .i64 0]]) ∧ Below w.heap.size w w') := hSu
  have HPe : Hid (∀ w, Tq w → Calls Tryz.prog 13 #[.int .i64 (n : Int)] w fun e w' => e = .returned (.tuple #[.string ⟨#[]⟩, .string ⟨#[]⟩, .agg #[.int .i64 9, .int .i64 0]]) ∧ Below w.heap.size w w') := hPe
  have HSf : Hid (∀ w, Calls Tryz.prog 14 #[.int .i64 (n : Int)] w fun e w' => e = .returned (.agg #[.int .i64 0, .int .i64 0]) ∧ Below w.heap.size w w') := hSf
  have HRn : Hid (Rn n r) := hR
  have HNo : Hid (∀ i, i < 1000 → (cs n r i).2 ≠ 1) := hno
  clear hT hSu hPe hSf hR hno
  go_enter Tryz.func4, Tryz.ntmps4
  go_wp2_with fail
  refine (HSu.out w).mono ?_
  rintro e w1 ⟨rfl, k1⟩
  have hM1 := Bx.one HT.out k1 (.int .i64 9) (.int .i64 0)
  have HK1 : w.heap.size ≤ w1.heap.size := k1.size
  clear HT HSu k1
  go_wp2_with fail
  generalize hW1 : (w1.alloc (.cells #[.int .i64 9, .int .i64 0] 25)) = W1 at hM1 ⊢
  have HM1 : Hid (Bx w W1 [(w1.heap.size, [.int .i64 9, .int .i64 0])]) := hM1
  have z1 : W1.heap.size = w1.heap.size + 1 := by rw [← hW1]; simp
  clear hM1 hW1
  refine (HPe.out W1 HM1.out.t).mono ?_
  rintro e w2 ⟨rfl, k2⟩
  have s2 := k2.size
  have hM2 := (HM1.out.go k2).box (.int .i64 9) (.int .i64 0)
  clear HM1 HPe k2
  go_wp2_with fail
  generalize hW2 : (w2.alloc (.cells #[.int .i64 9, .int .i64 0] 25)) = W2 at hM2 ⊢
  have HM2 : Hid (Bx w W2 [(w2.heap.size, [.int .i64 9, .int .i64 0]), (w1.heap.size, [.int .i64 9, .int .i64 0])]) := hM2
  have z2 : W2.heap.size = w2.heap.size + 1 := by rw [← hW2]; simp
  clear hM2 hW2
  refine (HSf.out W2).mono ?_
  rintro e w3 ⟨rfl, k3⟩
  have s3 := k3.size
  have hM3 := (HM2.out.go k3).box (.int .i64 0) (.int .i64 0)
  clear HM2 HSf k3
  have c0 := (hM3.cl w3.heap.size [.int .i64 0, .int .i64 0] (by simp)).cell 0
  simp only [List.getElem?_cons_zero] at c0
  go_wp2_with fail
  generalize hW3 : (w3.alloc (.cells #[.int .i64 0, .int .i64 0] 25)) = W3 at hM3 ⊢
  have HM3 : Hid (Bx w W3 [(w3.heap.size, [.int .i64 0, .int .i64 0]), (w2.heap.size, [.int .i64 9, .int .i64 0]), (w1.heap.size, [.int .i64 9, .int .i64 0])]) := hM3
  have z3 : W3.heap.size = w3.heap.size + 1 := by rw [← hW3]; simp
  clear hM3 hW3 c0
  refine (PeriodOf_any n r W3 HRn.out hn).mono ?_
  rintro e w4 ⟨M, pa, pc, rfl, hIS, ⟨⟨hM1, hM2⟩, hM3, hM4⟩, k4⟩
  have hM : (1000 : Int) < (M : Int) := by
    rcases Nat.lt_or_ge 1000 M with h | h
    · omega
    · rcases hM4 with h4 | h4
      · omega
      · exact absurd h4 (HNo.out (M - 1) (by omega))
  have HM4 := HM3.out.go k4
  have HX4 : Hid (Bx w w4 [(w3.heap.size, [.int .i64 0, .int .i64 0]), (w2.heap.size, [.int .i64 9, .int .i64 0]), (w1.heap.size, [.int .i64 9, .int .i64 0])]) := HM4
  have s4 := k4.size
  clear HM3 HM4 hIS hM3 hM4 k4 HNo HRn
  go_wp2_with fail
  refine (F_any 9 0 w4).mono ?_
  rintro e w5 ⟨rfl, k5⟩
  have hM5 := HX4.out.go k5
  have s5 := k5.size
  have y0 := hM5.cl w3.heap.size [.int .i64 0, .int .i64 0] (by simp)
  have y2 := y0.frozen 0
  have y3 := y0.frozen 1
  have y4 := y0.cell 0
  have y5 := y0.cell 1
  simp at y4 y5
  have HX5 : Hid (Bx w w5 [(w3.heap.size, [.int .i64 0, .int .i64 0]), (w2.heap.size, [.int .i64 9, .int .i64 0]), (w1.heap.size, [.int .i64 9, .int .i64 0])]) := hM5
  have hw1 : w.heap.size ≤ w1.heap.size := HK1
  clear HX4 hM5 k5 y0
  go_wp2_with fail
  have hM6 := HX5.out.set (u := .int .i64 9) (v := .int .i64 0) (by omega) (by simp; omega)
  generalize hW6 : ((w5.setCell ⟨w3.heap.size, 0, none⟩ (.int .i64 9)).setCell ⟨w3.heap.size, 1, none⟩ (.int .i64 0)) = W6 at hM6 ⊢
  have HM6 : Hid (Bx w W6 [(w3.heap.size, [.int .i64 9, .int .i64 0]), (w2.heap.size, [.int .i64 9, .int .i64 0]), (w1.heap.size, [.int .i64 9, .int .i64 0])]) := hM6
  clear hM6 hW6 HX5 y2 y3 y4 y5
  refine (contBegun_any W6 HM6.out.t).mono ?_
  rintro e w7 ⟨rfl, k7⟩
  have hM7 := HM6.out.go k7
  clear HM6 k7
  have HB : Hid (Below w.heap.size w w7) := hM7.k
  have a0 := (hM7.cl w3.heap.size [.int .i64 9, .int .i64 0] (by simp)).cell 0
  have a1 := (hM7.cl w3.heap.size [.int .i64 9, .int .i64 0] (by simp)).cell 1
  have b0 := (hM7.cl w2.heap.size [.int .i64 9, .int .i64 0] (by simp)).cell 0
  have b1 := (hM7.cl w2.heap.size [.int .i64 9, .int .i64 0] (by simp)).cell 1
  have d0 := (hM7.cl w1.heap.size [.int .i64 9, .int .i64 0] (by simp)).cell 0
  have d1 := (hM7.cl w1.heap.size [.int .i64 9, .int .i64 0] (by simp)).cell 1
  simp at a0 a1 b0 b1 d0 d1
  clear hM7
  go_wp2
  go_ret
  exact ⟨rfl, HB.out⟩

end Go.Proofs.YtpgedkdaflgfoafGreatDoor
