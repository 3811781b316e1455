/- prime.appendGreat of 1, and of a prime up to 23. -/
import Derived.Test.YtpgedkdaflgfoafGreatDoorPrimeM
import Derived.Test.YtpgedkdaflgfoafGreatDoorMathG
set_option linter.unusedSimpArgs false
set_option linter.unusedVariables false
set_option maxRecDepth 100000
namespace Go.Proofs.YtpgedkdaflgfoafGreatDoor
open Go.RowKit
attribute [local go_sem] Oper.semAt_some

theorem appendGreat_one (v : Value) (w : World) :
    Calls Tryz.prog 139 #[v, .int .i64 1] w fun e w' => e = .returned v ∧ w' = w := by
  go_enter Tryz.func139, Tryz.ntmps139
  go_wp2
  go_ret
  exact ⟨rfl, rfl⟩

set_option maxHeartbeats 400000 in
theorem appendGreat_nine (N : Int) (hN : N ∈ nine) (a : Option Addr) (c B k : Nat) (l : List Int) (w : World) (hk : k = l.length) (hl : k ≤ 100) (hB : B ≤ w.heap.size) (row : w.ownsRow B 3 1 (.slice a k c) k (ints l)) :
    Calls Tryz.prog 139 #[.slice a k c, .int .i64 N] w fun e w' => ∃ g c', e = .returned (.slice (some ⟨g, 0, none⟩) (k + 1) c') ∧ w'.ownsRow B 3 1 (.slice (some ⟨g, 0, none⟩) (k + 1) c') (k + 1) (ints (l ++ [N])) ∧ Below B w w' := by
  obtain ⟨i0, hi, hz0, hz1, hz2⟩ := info_parts Tryz.infoInt
  have HI : Hid (Tryz.prog.info? 3 = some i0 ∧ i0.zero = some (.int .i64 0) ∧ i0.size = 1 ∧ i0.bytes = 8) := ⟨hi, hz0, hz1, hz2⟩
  have HRow : Hid (w.ownsRow B 3 1 (.slice a k c) k (ints l)) := row
  have HN : Hid (N ∈ nine) := hN
  have hN2 := nine_size N hN
  have hN1 : (N == 1) = false := beq_eq_false_iff_ne.2 (by omega)
  clear hi hz0 hz1 hz2 row hN hk
  go_enter Tryz.func139, Tryz.ntmps139
  go_wp2_with fail
  refine (isPrime_nine N HN.out w).mono ?_
  rintro e w1 ⟨rfl, k1⟩
  have z1 := k1.size
  have K1 : Hid (Below w.heap.size w w1) := k1
  have R1 : Hid (w1.ownsRow B 3 1 (.slice a k c) k (ints l)) := row_kept HRow.out (fun g e => k1.block g (HRow.out.lt g e).2)
  clear k1 HRow
  go_wp2_with (at_builtin; refine wpList_append_own _ rfl _ _ 34 rfl B 3 i0 (.int .i64 0) 1 8 Tryz.underlying34 HI.out.1 HI.out.2.1 HI.out.2.2.1 HI.out.2.2.2 rfl (by decide) (.slice a k c) k (ints l) rfl (R1.out.alloc _) ⟨w1.heap.size, 0, none⟩ 1 1 [.int .i64 N] rfl rfl (cell_one_new _ _ _) (by simp [Value.oneCell']) (by simp only [maxLen]; omega) (by omega) (by simp; omega) ?_; intro v' w2 hown' hgrow _; obtain ⟨g', cap', rfl⟩ := ownsRow_succ hown')
  have hb : Below B w w2 := ((K1.out.mono hB).alloc (by omega) _).grown hgrow (by simp; omega) (fun k e => (R1.out.lt k e).1)
  have HB : Hid (Below B w w2) := hb
  have HO : Hid (w2.ownsRow B 3 1 (.slice (some ⟨g', 0, none⟩) (k + 1) cap') (k + 1) (ints (l ++ [N]))) := by
    rw [ints, List.map_append]; exact hown'
  clear hb hown' hgrow
  go_wp2
  go_ret
  exact ⟨g', cap', rfl, HO.out, HB.out⟩

end Go.Proofs.YtpgedkdaflgfoafGreatDoor
