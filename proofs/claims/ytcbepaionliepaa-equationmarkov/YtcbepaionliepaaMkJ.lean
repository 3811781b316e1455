/- Markov: the reference's MarkovIs. -/
import Derived.Test.YtcbepaionliepaaBoA
import Derived.Test.YtcbepaionliepaaRsK
import Derived.Test.YtcbepaionliepaaRegionM
import Derived.Test.YtcbepaionliepaaRegionG
set_option linter.unusedSimpArgs false
set_option linter.unusedVariables false
set_option maxRecDepth 100000
namespace Go.Proofs.Ytcbepaionliepaa
open Go.RowKit

set_option maxHeartbeats 1000000 in
theorem MarkovIs_g (x y z : Nat) (q S P : Nat → Nat) (w : World) (hq : ∀ i, i < 3 → q i ≤ 1000000000000000000 ∧ ([.int .i64 (x : Int), .int .i64 (y : Int), .int .i64 (z : Int)] : List Value)[i]? = some (.int .i64 (q i : Int))) (hS : S 0 = 0 ∧ ∀ i, i < 3 → S (i + 1) = S i + q i * q i) (hP : P 0 = 3 ∧ ∀ i, i < 3 → P (i + 1) = P i * q i) (hb : ∀ i, i ≤ 3 → S i < pw 8 ∧ P i < pw 8) :
    Calls Try.prog 18 #[.agg #[.int .i64 (x : Int), .int .i64 (y : Int), .int .i64 (z : Int)]] w fun e w' => e = .returned (.bool (decide (S 3 = P 3))) ∧ Below w.heap.size w w' := by
  have HQ : Hid (∀ i, i < 3 → q i ≤ 1000000000000000000 ∧ ([.int .i64 (x : Int), .int .i64 (y : Int), .int .i64 (z : Int)] : List Value)[i]? = some (.int .i64 (q i : Int))) := hq
  have HS : Hid (S 0 = 0 ∧ ∀ i, i < 3 → S (i + 1) = S i + q i * q i) := hS
  have HP : Hid (P 0 = 3 ∧ ∀ i, i < 3 → P (i + 1) = P i * q i) := hP
  have HB : Hid (∀ i, i ≤ 3 → S i < pw 8 ∧ P i < pw 8) := hb
  clear hq hS hP hb
  go_enter Try.func18, Try.ntmps18
  go_wp2_with fail
  refine (B_any 0 _ (by omega) (by omega)).mono ?_
  rintro e w1 ⟨bs, rfl, m1⟩
  go_wp2_with fail
  refine (B_any 3 _ (by omega) (by omega)).mono ?_
  rintro e w2 ⟨bp, rfl, m2⟩
  have HM : Hid (Cl w.heap.size [.int .i64 (x : Int), .int .i64 (y : Int), .int .i64 (z : Int)] 42 w2 ∧ BigAt w2 bs (S 0 : Nat) ∧ BigAt w2 bp (P 0 : Nat) ∧ w.heap.size < bs ∧ bs < bp ∧ Below w.heap.size w w2) := by
    have C := Cl.new [.int .i64 (x : Int), .int .i64 (y : Int), .int .i64 (z : Int)] 42 w
    have s1 := m1.1
    have s2 := m1.2.1.lt
    have s3 := m2.1
    have s4 := m1.2.2.size
    rw [World.size_alloc] at s1 s4
    refine ⟨(C.below m1.2.2).below m2.2.2, ?_, ?_, by omega, by omega, ?_⟩
    · rw [HS.out.1]; exact m1.2.1.below m2.2.2 (Nat.le_refl _)
    · rw [HP.out.1]; exact m2.2.1
    · exact ((Below.alloc (Below.refl _ _) (Nat.le_refl _) _).trans (m1.2.2.mono (by simp))).trans (m2.2.2.mono (by omega))
  clear m1 m2
  go_wp2
  go_loopg [5] 3 (fun gk iv wx => ∃ i : Nat, iv = .int .i64 i ∧ Hid (gk = 3 - i ∧ i ≤ 3 ∧ Cl w.heap.size [.int .i64 (x : Int), .int .i64 (y : Int), .int .i64 (z : Int)] 42 wx ∧ BigAt wx bs (S i : Nat) ∧ BigAt wx bp (P i : Nat) ∧ w.heap.size < bs ∧ bs < bp ∧ Below w.heap.size w wx))
  case atStart => exact ⟨0, rfl, rfl, by omega, HM.out⟩
  case round =>
    clear HM
    obtain ⟨i, rfl, HR⟩ := hrel
    obtain ⟨h1, h2, C, bS, bP, l1, l2, k⟩ := HR.out
    by_cases hi : i < 3
    · have ti : decide ((i : Int) < 3) = true := decide_eq_true (by omega)
      obtain ⟨hq1, hq2⟩ := HQ.out i hi
      have c0 : wr.cell? ⟨w.heap.size, i, none⟩ = some (.int .i64 (q i : Int)) := (C.cell i).trans hq2
      obtain ⟨sn, hsn⟩ : ∃ s, s = S i := ⟨_, rfl⟩
      obtain ⟨pn, hpn⟩ : ∃ p, p = P i := ⟨_, rfl⟩
      obtain ⟨t, ht⟩ : ∃ t, t = q i := ⟨_, rfl⟩
      have HN : Hid (S (i + 1) = sn + t * t ∧ P (i + 1) = pn * t) := ⟨by rw [hsn, ht]; exact HS.out.2 i hi, by rw [hpn, ht]; exact HP.out.2 i hi⟩
      have HT2 : Hid ((t : Int).natAbs < pw 2 ∧ (sn : Int).natAbs < pw 8 ∧ ((t : Int) * (t : Int)).natAbs < pw 4 ∧ (pn : Int).natAbs < pw 8) := by
        have a := HB.out i (by omega)
        have b : t < pw 2 := by rw [pw_two]; omega
        refine ⟨by simpa using b, by rw [hsn]; simpa using a.1, ?_, by rw [hpn]; simpa using a.2⟩
        rw [Int.natAbs_mul, show (4 : Nat) = 2 + 2 from rfl, pw_add]
        exact Nat.mul_lt_mul'' (by simpa using b) (by simpa using b)
      rw [← ht] at c0 hq1
      rw [← hsn] at bS
      rw [← hpn] at bP
      have HM : Hid (Cl w.heap.size [.int .i64 (x : Int), .int .i64 (y : Int), .int .i64 (z : Int)] 42 wr ∧ BigAt wr bs (sn : Int) ∧ BigAt wr bp (pn : Int) ∧ w.heap.size < bs ∧ bs < bp ∧ Below w.heap.size w wr) := ⟨C, bS, bP, l1, l2, k⟩
      have HG : Hid (gk = 3 - i) := h1
      have HS1 : Hid (∀ W', Below wr.heap.size wr W' → W'.cell? ⟨w.heap.size, i, none⟩ = some (.int .i64 (t : Int))) := fun W' kb => ((C.below kb).cell i).trans ((C.cell i).symm.trans c0)
      have HQC : Hid (([.int .i64 (x : Int), .int .i64 (y : Int), .int .i64 (z : Int)] : List Value)[i]? = some (.int .i64 (t : Int))) := by rw [ht]; exact hq2
      have hi3 : (i : Int) < 3 := by omega
      clear hq2 hsn hpn ht HR h1 C bS bP l1 l2 k
      go_wp2_with fail
      refine wp_region_G (fun w' => w'.cell? ⟨w.heap.size, i, none⟩ = some (.int .i64 (t : Int))) 12 (by kernel_rfl) c0 (fun hHeld => ?_)
      refine wpAnyG_take (i := 0) (v := ?v0) rfl (by kernel_rfl) (fun _ _ _ h => h) (Or.inl ⟨by rfl, ?y0⟩) hHeld ?r0
      case y0 => (intro wS hSw; obtain sc := hSw; go_simp; try with_reducible rfl)
      try simp only [Act.put, List.setIfInBounds_toArray, List.set_cons_zero, List.set_cons_succ]
      refine wpAnyG_take (i := 1) (v := ?v1) rfl (by kernel_rfl) (fun _ _ _ h => h) (Or.inl ⟨by rfl, ?y1⟩) hHeld ?r1
      case y1 => (intro wS hSw; obtain sc := hSw; go_simp; try with_reducible rfl)
      try simp only [Act.put, List.setIfInBounds_toArray, List.set_cons_zero, List.set_cons_succ]
      refine wpAnyG_take (i := 3) (v := ?v3) rfl (by kernel_rfl) (fun _ _ _ h => h) (Or.inl ⟨by rfl, ?y3⟩) hHeld ?r3
      case y3 => (intro wS hSw; obtain sc := hSw; go_simp; try with_reducible rfl)
      try simp only [Act.put, List.setIfInBounds_toArray, List.set_cons_zero, List.set_cons_succ]
      refine wpAnyG_take (i := 4) (v := ?v4) rfl (by kernel_rfl) (fun _ _ _ h => h) (Or.inl ⟨by rfl, ?y4⟩) hHeld ?r4
      case y4 => (intro wS hSw; obtain sc := hSw; go_simp; try with_reducible rfl)
      try simp only [Act.put, List.setIfInBounds_toArray, List.set_cons_zero, List.set_cons_succ]
      refine wpAnyG_take (i := 5) (v := ?v5) rfl (by kernel_rfl) (fun _ _ _ h => h) (Or.inl ⟨by rfl, ?y5⟩) hHeld ?r5
      case y5 => (intro wS hSw; obtain sc := hSw; go_simp; try with_reducible rfl)
      try simp only [Act.put, List.setIfInBounds_toArray, List.set_cons_zero, List.set_cons_succ]
      refine wpAnyG_take (i := 7) (v := ?v7) rfl (by kernel_rfl) (fun _ _ _ h => h) (Or.inl ⟨by rfl, ?y7⟩) hHeld ?r7
      case y7 => (intro wS hSw; obtain sc := hSw; go_simp; try with_reducible rfl)
      try simp only [Act.put, List.setIfInBounds_toArray, List.set_cons_zero, List.set_cons_succ]
      refine wpAnyG_take (i := 8) (v := ?v8) rfl (by kernel_rfl) (fun _ _ _ h => h) (Or.inl ⟨by rfl, ?y8⟩) hHeld ?r8
      case y8 => (intro wS hSw; obtain sc := hSw; go_simp; try with_reducible rfl)
      try simp only [Act.put, List.setIfInBounds_toArray, List.set_cons_zero, List.set_cons_succ]
      refine wpAnyG_take (i := 9) (v := ?v9) rfl (by kernel_rfl) (fun _ _ _ h => h) (Or.inl ⟨by rfl, ?y9⟩) hHeld ?r9
      case y9 => (intro wS hSw; obtain sc := hSw; go_simp; try with_reducible rfl)
      try simp only [Act.put, List.setIfInBounds_toArray, List.set_cons_zero, List.set_cons_succ]
      clear hHeld
      refine wpAnyG_inv (fun n l a w1 => (n = 5 ∧ l = #[true, true, false, true, true, true, false, true, true, true, false, false, false] ∧ a = { tmps := ((.agg #[.int .i64 (x : Int), .int .i64 (y : Int), .int .i64 (z : Int)]) :: (.pointer (some ⟨w.heap.size, 0, none⟩)) :: (.bool false) :: (.pointer (some ⟨bs, 0, none⟩)) :: (.pointer (some ⟨bp, 0, none⟩)) :: (.int .i64 (i : Int)) :: (.pointer (some ⟨bs, 0, none⟩)) :: (.pointer (some ⟨bp, 0, none⟩)) :: (.int .i64 (i : Int)) :: (.bool true) :: (u10) :: (u11) :: (.pointer (some ⟨bs, 0, none⟩)) :: (.pointer (some ⟨bs, 0, none⟩)) :: (u14) :: (.int .i64 (i : Int)) :: (.pointer (some ⟨w.heap.size, i, none⟩)) :: (.int .i64 (t : Int)) :: (u18) :: (.int .i64 (i : Int)) :: (.pointer (some ⟨w.heap.size, i, none⟩)) :: (.int .i64 (t : Int)) :: (u22) :: (u23) :: (u24) :: (u25) :: (u26) :: (u27) :: (u28) :: (u29) :: (u30) :: (u31) :: (undef) :: (undef) :: (undef) :: (undef) :: []).toArray, defers := [] } ∧ Hid (Below wr.heap.size wr w1)) ∨ (∃ b0 : Nat, n = 4 ∧ l = #[true, true, true, true, true, true, false, true, true, true, false, false, false] ∧ a = { tmps := ((.agg #[.int .i64 (x : Int), .int .i64 (y : Int), .int .i64 (z : Int)]) :: (.pointer (some ⟨w.heap.size, 0, none⟩)) :: (.bool false) :: (.pointer (some ⟨bs, 0, none⟩)) :: (.pointer (some ⟨bp, 0, none⟩)) :: (.int .i64 (i : Int)) :: (.pointer (some ⟨bs, 0, none⟩)) :: (.pointer (some ⟨bp, 0, none⟩)) :: (.int .i64 (i : Int)) :: (.bool true) :: (u10) :: (u11) :: (.pointer (some ⟨bs, 0, none⟩)) :: (.pointer (some ⟨bs, 0, none⟩)) :: (.pointer (some ⟨b0, 0, none⟩)) :: (.int .i64 (i : Int)) :: (.pointer (some ⟨w.heap.size, i, none⟩)) :: (.int .i64 (t : Int)) :: (u18) :: (.int .i64 (i : Int)) :: (.pointer (some ⟨w.heap.size, i, none⟩)) :: (.int .i64 (t : Int)) :: (u22) :: (u23) :: (u24) :: (u25) :: (u26) :: (u27) :: (u28) :: (u29) :: (u30) :: (u31) :: (undef) :: (undef) :: (undef) :: (undef) :: []).toArray, defers := [] } ∧ Hid (Below wr.heap.size wr w1 ∧ wr.heap.size ≤ b0 ∧ Slot w1 b0)) ∨ (∃ n0 : Nat, n = 4 ∧ l = #[true, true, false, true, true, true, true, true, true, true, false, false, false] ∧ a = { tmps := ((.agg #[.int .i64 (x : Int), .int .i64 (y : Int), .int .i64 (z : Int)]) :: (.pointer (some ⟨w.heap.size, 0, none⟩)) :: (.bool false) :: (.pointer (some ⟨bs, 0, none⟩)) :: (.pointer (some ⟨bp, 0, none⟩)) :: (.int .i64 (i : Int)) :: (.pointer (some ⟨bs, 0, none⟩)) :: (.pointer (some ⟨bp, 0, none⟩)) :: (.int .i64 (i : Int)) :: (.bool true) :: (u10) :: (u11) :: (.pointer (some ⟨bs, 0, none⟩)) :: (.pointer (some ⟨bs, 0, none⟩)) :: (u14) :: (.int .i64 (i : Int)) :: (.pointer (some ⟨w.heap.size, i, none⟩)) :: (.int .i64 (t : Int)) :: (.pointer (some ⟨n0, 0, none⟩)) :: (.int .i64 (i : Int)) :: (.pointer (some ⟨w.heap.size, i, none⟩)) :: (.int .i64 (t : Int)) :: (u22) :: (u23) :: (u24) :: (u25) :: (u26) :: (u27) :: (u28) :: (u29) :: (u30) :: (u31) :: (undef) :: (undef) :: (undef) :: (undef) :: []).toArray, defers := [] } ∧ Hid (Below wr.heap.size wr w1 ∧ wr.heap.size ≤ n0 ∧ BigAt w1 n0 (t : Int))) ∨ (∃ b0 n0 : Nat, n = 3 ∧ l = #[true, true, true, true, true, true, true, true, true, true, false, false, false] ∧ a = { tmps := ((.agg #[.int .i64 (x : Int), .int .i64 (y : Int), .int .i64 (z : Int)]) :: (.pointer (some ⟨w.heap.size, 0, none⟩)) :: (.bool false) :: (.pointer (some ⟨bs, 0, none⟩)) :: (.pointer (some ⟨bp, 0, none⟩)) :: (.int .i64 (i : Int)) :: (.pointer (some ⟨bs, 0, none⟩)) :: (.pointer (some ⟨bp, 0, none⟩)) :: (.int .i64 (i : Int)) :: (.bool true) :: (u10) :: (u11) :: (.pointer (some ⟨bs, 0, none⟩)) :: (.pointer (some ⟨bs, 0, none⟩)) :: (.pointer (some ⟨b0, 0, none⟩)) :: (.int .i64 (i : Int)) :: (.pointer (some ⟨w.heap.size, i, none⟩)) :: (.int .i64 (t : Int)) :: (.pointer (some ⟨n0, 0, none⟩)) :: (.int .i64 (i : Int)) :: (.pointer (some ⟨w.heap.size, i, none⟩)) :: (.int .i64 (t : Int)) :: (u22) :: (u23) :: (u24) :: (u25) :: (u26) :: (u27) :: (u28) :: (u29) :: (u30) :: (u31) :: (undef) :: (undef) :: (undef) :: (undef) :: []).toArray, defers := [] } ∧ Hid (Below wr.heap.size wr w1 ∧ wr.heap.size ≤ b0 ∧ Slot w1 b0 ∧ wr.heap.size ≤ n0 ∧ BigAt w1 n0 (t : Int) ∧ b0 ≠ n0)) ∨ (∃ n0 n1 : Nat, n = 3 ∧ l = #[true, true, false, true, true, true, true, true, true, true, true, false, false] ∧ a = { tmps := ((.agg #[.int .i64 (x : Int), .int .i64 (y : Int), .int .i64 (z : Int)]) :: (.pointer (some ⟨w.heap.size, 0, none⟩)) :: (.bool false) :: (.pointer (some ⟨bs, 0, none⟩)) :: (.pointer (some ⟨bp, 0, none⟩)) :: (.int .i64 (i : Int)) :: (.pointer (some ⟨bs, 0, none⟩)) :: (.pointer (some ⟨bp, 0, none⟩)) :: (.int .i64 (i : Int)) :: (.bool true) :: (u10) :: (u11) :: (.pointer (some ⟨bs, 0, none⟩)) :: (.pointer (some ⟨bs, 0, none⟩)) :: (u14) :: (.int .i64 (i : Int)) :: (.pointer (some ⟨w.heap.size, i, none⟩)) :: (.int .i64 (t : Int)) :: (.pointer (some ⟨n0, 0, none⟩)) :: (.int .i64 (i : Int)) :: (.pointer (some ⟨w.heap.size, i, none⟩)) :: (.int .i64 (t : Int)) :: (.pointer (some ⟨n1, 0, none⟩)) :: (u23) :: (u24) :: (u25) :: (u26) :: (u27) :: (u28) :: (u29) :: (u30) :: (u31) :: (undef) :: (undef) :: (undef) :: (undef) :: []).toArray, defers := [] } ∧ Hid (Below wr.heap.size wr w1 ∧ wr.heap.size ≤ n0 ∧ BigAt w1 n0 (t : Int) ∧ wr.heap.size ≤ n1 ∧ BigAt w1 n1 (t : Int) ∧ n0 ≠ n1)) ∨ (∃ b0 n0 n1 : Nat, n = 2 ∧ l = #[true, true, true, true, true, true, true, true, true, true, true, false, false] ∧ a = { tmps := ((.agg #[.int .i64 (x : Int), .int .i64 (y : Int), .int .i64 (z : Int)]) :: (.pointer (some ⟨w.heap.size, 0, none⟩)) :: (.bool false) :: (.pointer (some ⟨bs, 0, none⟩)) :: (.pointer (some ⟨bp, 0, none⟩)) :: (.int .i64 (i : Int)) :: (.pointer (some ⟨bs, 0, none⟩)) :: (.pointer (some ⟨bp, 0, none⟩)) :: (.int .i64 (i : Int)) :: (.bool true) :: (u10) :: (u11) :: (.pointer (some ⟨bs, 0, none⟩)) :: (.pointer (some ⟨bs, 0, none⟩)) :: (.pointer (some ⟨b0, 0, none⟩)) :: (.int .i64 (i : Int)) :: (.pointer (some ⟨w.heap.size, i, none⟩)) :: (.int .i64 (t : Int)) :: (.pointer (some ⟨n0, 0, none⟩)) :: (.int .i64 (i : Int)) :: (.pointer (some ⟨w.heap.size, i, none⟩)) :: (.int .i64 (t : Int)) :: (.pointer (some ⟨n1, 0, none⟩)) :: (u23) :: (u24) :: (u25) :: (u26) :: (u27) :: (u28) :: (u29) :: (u30) :: (u31) :: (undef) :: (undef) :: (undef) :: (undef) :: []).toArray, defers := [] } ∧ Hid (Below wr.heap.size wr w1 ∧ wr.heap.size ≤ b0 ∧ Slot w1 b0 ∧ wr.heap.size ≤ n0 ∧ BigAt w1 n0 (t : Int) ∧ wr.heap.size ≤ n1 ∧ BigAt w1 n1 (t : Int) ∧ b0 ≠ n0 ∧ b0 ≠ n1 ∧ n0 ≠ n1)) ∨ (∃ b0 n0 n1 : Nat, n = 1 ∧ l = #[true, true, true, true, true, true, true, true, true, true, true, true, false] ∧ a = { tmps := ((.agg #[.int .i64 (x : Int), .int .i64 (y : Int), .int .i64 (z : Int)]) :: (.pointer (some ⟨w.heap.size, 0, none⟩)) :: (.bool false) :: (.pointer (some ⟨bs, 0, none⟩)) :: (.pointer (some ⟨bp, 0, none⟩)) :: (.int .i64 (i : Int)) :: (.pointer (some ⟨bs, 0, none⟩)) :: (.pointer (some ⟨bp, 0, none⟩)) :: (.int .i64 (i : Int)) :: (.bool true) :: (u10) :: (u11) :: (.pointer (some ⟨bs, 0, none⟩)) :: (.pointer (some ⟨bs, 0, none⟩)) :: (.pointer (some ⟨b0, 0, none⟩)) :: (.int .i64 (i : Int)) :: (.pointer (some ⟨w.heap.size, i, none⟩)) :: (.int .i64 (t : Int)) :: (.pointer (some ⟨n0, 0, none⟩)) :: (.int .i64 (i : Int)) :: (.pointer (some ⟨w.heap.size, i, none⟩)) :: (.int .i64 (t : Int)) :: (.pointer (some ⟨n1, 0, none⟩)) :: (.pointer (some ⟨b0, 0, none⟩)) :: (u24) :: (u25) :: (u26) :: (u27) :: (u28) :: (u29) :: (u30) :: (u31) :: (undef) :: (undef) :: (undef) :: (undef) :: []).toArray, defers := [] } ∧ Hid (Below wr.heap.size wr w1 ∧ wr.heap.size ≤ b0 ∧ BigAt w1 b0 ((t : Int) * (t : Int)) ∧ wr.heap.size ≤ n0 ∧ BigAt w1 n0 (t : Int) ∧ wr.heap.size ≤ n1 ∧ BigAt w1 n1 (t : Int) ∧ b0 ≠ n0 ∧ b0 ≠ n1 ∧ n0 ≠ n1)) ∨ (∃ b0 n0 n1 : Nat, n = 0 ∧ l = #[true, true, true, true, true, true, true, true, true, true, true, true, true] ∧ a = { tmps := ((.agg #[.int .i64 (x : Int), .int .i64 (y : Int), .int .i64 (z : Int)]) :: (.pointer (some ⟨w.heap.size, 0, none⟩)) :: (.bool false) :: (.pointer (some ⟨bs, 0, none⟩)) :: (.pointer (some ⟨bp, 0, none⟩)) :: (.int .i64 (i : Int)) :: (.pointer (some ⟨bs, 0, none⟩)) :: (.pointer (some ⟨bp, 0, none⟩)) :: (.int .i64 (i : Int)) :: (.bool true) :: (u10) :: (u11) :: (.pointer (some ⟨bs, 0, none⟩)) :: (.pointer (some ⟨bs, 0, none⟩)) :: (.pointer (some ⟨b0, 0, none⟩)) :: (.int .i64 (i : Int)) :: (.pointer (some ⟨w.heap.size, i, none⟩)) :: (.int .i64 (t : Int)) :: (.pointer (some ⟨n0, 0, none⟩)) :: (.int .i64 (i : Int)) :: (.pointer (some ⟨w.heap.size, i, none⟩)) :: (.int .i64 (t : Int)) :: (.pointer (some ⟨n1, 0, none⟩)) :: (.pointer (some ⟨b0, 0, none⟩)) :: (.pointer (some ⟨bs, 0, none⟩)) :: (u25) :: (u26) :: (u27) :: (u28) :: (u29) :: (u30) :: (u31) :: (undef) :: (undef) :: (undef) :: (undef) :: []).toArray, defers := [] } ∧ Hid (wr.heap.size ≤ w1.heap.size ∧ (BigAt w1 bs ((sn : Int) + (t : Int) * (t : Int)) ∧ Upd bs wr w1)))) ?steps _ _ _ _ ?start
      case start => exact Or.inl (⟨rfl, rfl, rfl, (Below.refl wr.heap.size wr).drew⟩)
      case steps =>
        intro n l a w1 hI
        rcases hI with hI | hI | hI | hI | hI | hI | hI | hI
        · obtain ⟨rfl, rfl, rfl, HH⟩ := hI
          right
          refine ⟨4, [2, 6], rfl, by kernel_rfl, by simp, fun i hi => ?_⟩
          simp only [List.mem_cons, List.not_mem_nil, or_false] at hi
          rcases hi with rfl | rfl
          · refine ⟨_, rfl, fun K' hK => ?_⟩
            go_simp
            have K := HH.out
            refine hK.out _ _ (fun _ _ => (HS1.out _ (K.alloc K.size _))) (Or.inr (Or.inl (⟨w1.heap.size, rfl, rfl, rfl, K.alloc K.size _, K.size, slot_new w1 _ _⟩)))
          · refine ⟨_, rfl, fun K' hK => ?_⟩
            go_simp
            have K := HH.out
            refine (B_any (t : Int) w1 (by omega) (by omega)).mono ?_
            rintro e w2 ⟨n0, rfl, m2⟩
            refine hK.out _ _ (fun _ _ => (HS1.out _ (K.trans (m2.2.2.mono K.size)))) (Or.inr (Or.inr (Or.inl (⟨n0, rfl, rfl, rfl, (K.trans (m2.2.2.mono K.size)), (Nat.le_trans K.size m2.1), m2.2.1⟩))))
        · obtain ⟨b0, rfl, rfl, rfl, HH⟩ := hI
          right
          refine ⟨3, [6], rfl, by kernel_rfl, by simp, fun i hi => ?_⟩
          simp only [List.mem_cons, List.not_mem_nil, or_false] at hi
          subst hi
          refine ⟨_, rfl, fun K' hK => ?_⟩
          go_simp
          obtain ⟨K, ge_b0, at_b0⟩ := HH.out
          refine (B_any (t : Int) w1 (by omega) (by omega)).mono ?_
          rintro e w2 ⟨n0, rfl, m2⟩
          refine hK.out _ _ (fun _ _ => (HS1.out _ (K.trans (m2.2.2.mono K.size)))) (Or.inr (Or.inr (Or.inr (Or.inl (⟨b0, n0, rfl, rfl, rfl, (K.trans (m2.2.2.mono K.size)), ge_b0, at_b0.below m2.2.2 (Nat.le_refl _), (Nat.le_trans K.size m2.1), m2.2.1, (Nat.ne_of_lt (Nat.lt_of_lt_of_le at_b0.lt m2.1))⟩)))))
        · obtain ⟨n0, rfl, rfl, rfl, HH⟩ := hI
          right
          refine ⟨3, [2, 10], rfl, by kernel_rfl, by simp, fun i hi => ?_⟩
          simp only [List.mem_cons, List.not_mem_nil, or_false] at hi
          rcases hi with rfl | rfl
          · refine ⟨_, rfl, fun K' hK => ?_⟩
            go_simp
            obtain ⟨K, ge_n0, at_n0⟩ := HH.out
            refine hK.out _ _ (fun _ _ => (HS1.out _ (K.alloc K.size _))) (Or.inr (Or.inr (Or.inr (Or.inl (⟨w1.heap.size, n0, rfl, rfl, rfl, K.alloc K.size _, K.size, slot_new w1 _ _, ge_n0, at_n0.below (Below.alloc_self' w1 _) (Nat.le_refl _), (Nat.ne_of_gt at_n0.lt)⟩)))))
          · refine ⟨_, rfl, fun K' hK => ?_⟩
            go_simp
            obtain ⟨K, ge_n0, at_n0⟩ := HH.out
            refine (B_any (t : Int) w1 (by omega) (by omega)).mono ?_
            rintro e w2 ⟨n1, rfl, m2⟩
            refine hK.out _ _ (fun _ _ => (HS1.out _ (K.trans (m2.2.2.mono K.size)))) (Or.inr (Or.inr (Or.inr (Or.inr (Or.inl (⟨n0, n1, rfl, rfl, rfl, (K.trans (m2.2.2.mono K.size)), ge_n0, at_n0.below m2.2.2 (Nat.le_refl _), (Nat.le_trans K.size m2.1), m2.2.1, (Nat.ne_of_lt (Nat.lt_of_lt_of_le at_n0.lt m2.1))⟩))))))
        · obtain ⟨b0, n0, rfl, rfl, rfl, HH⟩ := hI
          right
          refine ⟨2, [10], rfl, by kernel_rfl, by simp, fun i hi => ?_⟩
          simp only [List.mem_cons, List.not_mem_nil, or_false] at hi
          subst hi
          refine ⟨_, rfl, fun K' hK => ?_⟩
          go_simp
          obtain ⟨K, ge_b0, at_b0, ge_n0, at_n0, ne_b0_n0⟩ := HH.out
          refine (B_any (t : Int) w1 (by omega) (by omega)).mono ?_
          rintro e w2 ⟨n1, rfl, m2⟩
          refine hK.out _ _ (fun _ _ => (HS1.out _ (K.trans (m2.2.2.mono K.size)))) (Or.inr (Or.inr (Or.inr (Or.inr (Or.inr (Or.inl (⟨b0, n0, n1, rfl, rfl, rfl, (K.trans (m2.2.2.mono K.size)), ge_b0, at_b0.below m2.2.2 (Nat.le_refl _), ge_n0, at_n0.below m2.2.2 (Nat.le_refl _), (Nat.le_trans K.size m2.1), m2.2.1, ne_b0_n0, (Nat.ne_of_lt (Nat.lt_of_lt_of_le at_b0.lt m2.1)), (Nat.ne_of_lt (Nat.lt_of_lt_of_le at_n0.lt m2.1))⟩)))))))
        · obtain ⟨n0, n1, rfl, rfl, rfl, HH⟩ := hI
          right
          refine ⟨2, [2], rfl, by kernel_rfl, by simp, fun i hi => ?_⟩
          simp only [List.mem_cons, List.not_mem_nil, or_false] at hi
          subst hi
          refine ⟨_, rfl, fun K' hK => ?_⟩
          go_simp
          obtain ⟨K, ge_n0, at_n0, ge_n1, at_n1, ne_n0_n1⟩ := HH.out
          refine hK.out _ _ (fun _ _ => (HS1.out _ (K.alloc K.size _))) (Or.inr (Or.inr (Or.inr (Or.inr (Or.inr (Or.inl (⟨w1.heap.size, n0, n1, rfl, rfl, rfl, K.alloc K.size _, K.size, slot_new w1 _ _, ge_n0, at_n0.below (Below.alloc_self' w1 _) (Nat.le_refl _), ge_n1, at_n1.below (Below.alloc_self' w1 _) (Nat.le_refl _), (Nat.ne_of_gt at_n0.lt), (Nat.ne_of_gt at_n1.lt), ne_n0_n1⟩)))))))
        · obtain ⟨b0, n0, n1, rfl, rfl, rfl, HH⟩ := hI
          right
          refine ⟨1, [11], rfl, by kernel_rfl, by simp, fun i hi => ?_⟩
          simp only [List.mem_cons, List.not_mem_nil, or_false] at hi
          subst hi
          refine ⟨_, rfl, fun K' hK => ?_⟩
          go_simp
          obtain ⟨K, ge_b0, at_b0, ge_n0, at_n0, ge_n1, at_n1, ne_b0_n0, ne_b0_n1, ne_n0_n1⟩ := HH.out
          refine (Mul_any b0 n0 n1 t t 2 2 w1 at_b0 at_n0 at_n1 HT2.out.1 HT2.out.1 (by omega) (by omega)).mono ?_
          rintro e w2 ⟨rfl, h2, u2⟩
          refine hK.out _ _ (fun _ _ => (HS1.out _ (K.trans (u2.below K.size ge_b0)))) (Or.inr (Or.inr (Or.inr (Or.inr (Or.inr (Or.inr (Or.inl (⟨b0, n0, n1, rfl, rfl, rfl, (K.trans (u2.below K.size ge_b0)), ge_b0, h2, ge_n0, at_n0.upd u2 at_b0 (Ne.symm ne_b0_n0), ge_n1, at_n1.upd u2 at_b0 (Ne.symm ne_b0_n1), ne_b0_n0, ne_b0_n1, ne_n0_n1⟩))))))))
        · obtain ⟨b0, n0, n1, rfl, rfl, rfl, HH⟩ := hI
          right
          refine ⟨0, [12], rfl, by kernel_rfl, by simp, fun i hi => ?_⟩
          simp only [List.mem_cons, List.not_mem_nil, or_false] at hi
          subst hi
          refine ⟨_, rfl, fun K' hK => ?_⟩
          go_simp
          obtain ⟨K, ge_b0, at_b0, ge_n0, at_n0, ge_n1, at_n1, ne_b0_n0, ne_b0_n1, ne_n0_n1⟩ := HH.out
          refine (Add_any bs bs b0 (sn : Int) ((t : Int) * (t : Int)) 8 4 w1 (HM.out.2.1.below K (Nat.le_refl _)).slot (HM.out.2.1.below K (Nat.le_refl _)) at_b0 HT2.out.2.1 HT2.out.2.2.1 (by omega) (by omega)).mono ?_
          rintro e w2 ⟨rfl, h2, u2⟩
          have E : (BigAt w2 bs ((sn : Int) + (t : Int) * (t : Int)) ∧ Upd bs wr w2) := ⟨h2, (Upd.of_below K).trans u2⟩
          have Z : wr.heap.size ≤ w2.heap.size := Nat.le_trans K.size u2.size
          refine hK.out _ _ (fun _ h => absurd rfl h) (Or.inr (Or.inr (Or.inr (Or.inr (Or.inr (Or.inr (Or.inr (⟨b0, n0, n1, rfl, rfl, rfl, Z, E⟩))))))))
        · obtain ⟨b0, n0, n1, rfl, rfl, rfl, HH⟩ := hI
          obtain ⟨Z, E⟩ := HH.out
          left
          refine ⟨by kernel_rfl, ?_⟩
          have HE : Hid (Cl w.heap.size [.int .i64 (x : Int), .int .i64 (y : Int), .int .i64 (z : Int)] 42 w1 ∧ BigAt w1 bs (S (i + 1) : Nat) ∧ BigAt w1 bp (pn : Int) ∧ w.heap.size < bs ∧ bs < bp ∧ Below w.heap.size w w1) := by
            obtain ⟨C, bS, bP, l1, l2, k⟩ := HM.out
            refine ⟨(E.2.block _ C.lt (by omega)).trans C, ?_, bP.upd E.2 bS.slot (by omega), l1, l2, k.trans (E.2.below k.size (by omega))⟩
            rw [HN.out.1]; simpa using E.1
          have c1 : w1.cell? ⟨w.heap.size, i, none⟩ = some (.int .i64 (t : Int)) := (HE.out.1.cell i).trans HQC.out
          clear HH E Z HM HS1
          go_wp2_with fail
          refine (B_any (t : Int) w1 (by omega) (by omega)).mono ?_
          rintro e w2 ⟨n2, rfl, m2⟩
          have HE2 : Hid (Cl w.heap.size [.int .i64 (x : Int), .int .i64 (y : Int), .int .i64 (z : Int)] 42 w2 ∧ BigAt w2 bs (S (i + 1) : Nat) ∧ BigAt w2 bp (pn : Int) ∧ w.heap.size < bs ∧ bs < bp ∧ Below w.heap.size w w2 ∧ BigAt w2 n2 (t : Int)) := by
            obtain ⟨C, bS, bP, l1, l2, k⟩ := HE.out
            exact ⟨C.below m2.2.2, bS.below m2.2.2 (Nat.le_refl _), bP.below m2.2.2 (Nat.le_refl _), l1, l2, k.trans (m2.2.2.mono k.size), m2.2.1⟩
          clear m2 HE
          go_wp2_with fail
          refine (Mul_any bp bp n2 (pn : Int) (t : Int) 8 2 w2 HE2.out.2.2.1.slot HE2.out.2.2.1 HE2.out.2.2.2.2.2.2 HT2.out.2.2.2 HT2.out.1 (by omega) (by omega)).mono ?_
          rintro e w3 ⟨rfl, h3, u3⟩
          have HE3 : Hid (Cl w.heap.size [.int .i64 (x : Int), .int .i64 (y : Int), .int .i64 (z : Int)] 42 w3 ∧ BigAt w3 bs (S (i + 1) : Nat) ∧ BigAt w3 bp (P (i + 1) : Nat) ∧ w.heap.size < bs ∧ bs < bp ∧ Below w.heap.size w w3) := by
            obtain ⟨C, bS, bP, l1, l2, k, _⟩ := HE2.out
            refine ⟨(u3.block _ C.lt (by omega)).trans C, bS.upd u3 bP.slot (by omega), ?_, l1, l2, k.trans (u3.below k.size (by omega))⟩
            rw [HN.out.2]; simpa using h3
          clear h3 u3 HE2
          go_wp2
          go_roundg (3 - (i + 1))
          case rel => exact ⟨i + 1, by go_num, rfl, by omega, HE3.out⟩
          case measure => have := HG.out; omega
    · have ti : decide ((i : Int) < 3) = false := decide_eq_false (by omega)
      obtain rfl : i = 3 := by omega
      have HM : Hid (BigAt wr bs (S 3 : Nat) ∧ BigAt wr bp (P 3 : Nat) ∧ Below w.heap.size w wr) := ⟨bS, bP, k⟩
      have HC : Hid (((S 3 : Nat) : Int).natAbs < pw 8 ∧ ((P 3 : Nat) : Int).natAbs < pw 8) := by have := HB.out 3 (by omega); show _ ∧ _; simpa using this
      obtain ⟨c, hc⟩ : ∃ c, c = cmpZ ((S 3 : Nat) : Int) ((P 3 : Nat) : Int) := ⟨_, rfl⟩
      have hcz : (c == 0) = decide (S 3 = P 3) := by
        rw [hc]; unfold cmpZ
        by_cases h : S 3 = P 3
        · simp [h]
        · rw [decide_eq_false h]
          split
          · rfl
          · split
            · rfl
            · omega
      have HX : Hid (∀ w', BigAt w' bs (S 3 : Nat) → BigAt w' bp (P 3 : Nat) → Calls Try.prog 12 #[.pointer (some ⟨bs, 0, none⟩), .pointer (some ⟨bp, 0, none⟩)] w' fun e w'' => e = .returned (.int .i64 c) ∧ ∃ k, w'' = w'.drewN k) := fun w' a b => by
        rw [hc]; exact Cmp_any bs bp _ _ 8 8 w' a b HC.out.1 HC.out.2 (by omega) (by omega)
      obtain ⟨D, hD⟩ : ∃ D, D = decide (S 3 = P 3) := ⟨_, rfl⟩
      rw [← hD] at hcz
      have HD : Hid (D = decide (S 3 = P 3)) := hD
      clear HR h1 C bS bP l1 l2 k hc hD
      go_wp2_with fail
      refine (HX.out _ HM.out.1 HM.out.2.1).mono ?_
      rintro e w2 ⟨rfl, q, hw⟩
      have HK : Hid (Below w.heap.size w w2) := by show Below _ _ _; rw [hw]; exact below_drewN' HM.out.2.2
      clear hw
      go_wp2
      go_ret
      exact ⟨by rw [← HD.out]; rfl, HK.out⟩

/-- x^2 + y^2 + z^2 = 3 x y z? -/
theorem MarkovIs_any (x y z : Nat) (w : World) (hx : x ≤ 1000000000000000000) (hy : y ≤ 1000000000000000000) (hz : z ≤ 1000000000000000000) :
    Calls Try.prog 18 #[.agg #[.int .i64 (x : Int), .int .i64 (y : Int), .int .i64 (z : Int)]] w fun e w' => e = .returned (.bool (decide (x * x + y * y + z * z = 3 * x * y * z))) ∧ Below w.heap.size w w' := by
  have p2 : ∀ a : Nat, a ≤ 1000000000000000000 → a < pw 2 := fun a h => by rw [pw_two]; omega
  have sq : ∀ a : Nat, a ≤ 1000000000000000000 → a * a ≤ 1000000000000000000000000000000000000 := fun a h => Nat.mul_le_mul h h
  have p8 : (3000000000000000000000000000000000000000000000000000000 : Nat) < pw 8 := by decide
  have b1 : 3 * x ≤ 3000000000000000000 := by omega
  have b2 : 3 * x * y ≤ 3000000000000000000000000000000000000 := Nat.mul_le_mul b1 hy
  have b3 : 3 * x * y * z ≤ 3000000000000000000000000000000000000000000000000000000 := Nat.mul_le_mul b2 hz
  have := sq x hx
  have := sq y hy
  have := sq z hz
  refine MarkovIs_g x y z (fun i => if i = 0 then x else if i = 1 then y else z) (fun i => if i = 0 then 0 else if i = 1 then x * x else if i = 2 then x * x + y * y else x * x + y * y + z * z) (fun i => if i = 0 then 3 else if i = 1 then 3 * x else if i = 2 then 3 * x * y else 3 * x * y * z) w ?_ ⟨rfl, ?_⟩ ⟨rfl, ?_⟩ ?_
  · intro i hi
    match i, hi with
    | 0, _ => exact ⟨hx, rfl⟩
    | 1, _ => exact ⟨hy, rfl⟩
    | 2, _ => exact ⟨hz, rfl⟩
  · intro i hi
    match i, hi with
    | 0, _ => simp
    | 1, _ => simp
    | 2, _ => simp
  · intro i hi
    match i, hi with
    | 0, _ => simp
    | 1, _ => simp
    | 2, _ => simp
  · intro i hi
    match i, hi with
    | 0, _ => simp; omega
    | 1, _ => simp; omega
    | 2, _ => simp; omega
    | 3, _ => simp; omega

end Go.Proofs.Ytcbepaionliepaa
