/- The program: Classes. -/
import Derived.Test.YtijkanilpblogaeQcF
set_option linter.unusedSimpArgs false
set_option linter.unusedVariables false
set_option maxRecDepth 100000
namespace Go.Proofs.Ytijkanilpblogae
open Go.RowKit

theorem row_cells {B n : Nat} {a : Option Addr} {c : Nat} {t : TypeId} {W : World} {l : List Qf} (h : W.ownsRow B t 3 (.slice a l.length c) l.length (qcells l)) (hl : l ≠ []) :
    ∃ b : Nat, a = some ⟨b, 0, none⟩ ∧ b < W.heap.size ∧ ∀ j u, (qcells l)[j]? = some u → W.cell? ⟨b, j, none⟩ = some u := by
  rcases h.2 with ⟨_, h1⟩ | ⟨g, _, _, h1, _⟩
  · exact absurd (List.length_eq_zero_iff.1 h1) hl
  · have e1 : a = some ⟨g, 0, none⟩ := by simp at h1; exact h1.1
    subst e1
    refine ⟨g, rfl, (h.lt g rfl).2, fun j u hu => ?_⟩
    obtain ⟨hj, _⟩ := List.getElem?_eq_some_iff.1 hu
    rw [h.cellAt j (by rw [qcells_len] at hj; exact hj), hu]

set_option maxHeartbeats 4000000 in
theorem Classes_any (d : Int) (w : World) : Calls Try.prog 8 #[.int .i64 d] w (ClassesOut d w) := by
  unfold ClassesOut ffv
  have HL : Hid (-200000 ≤ d → d < 0 → ∀ w, Calls Try.prog 29 #[.int .i64 d, .int .i64 4] w fun e w' => e = .returned (.int .i64 (d % 4)) ∧ w' = w) := fun h1 h2 w => modLeft_int d 4 w (by omega) (by decide) (by decide)
  have HC : Hid (-200000 ≤ d → d < 0 → ∀ w, Calls Try.prog 30 #[.int .i64 d] w fun e w' => ∃ (n : Nat) (a : Option Addr) (c : Nat), e = .returned (.slice a (classesTo d n).length c) ∧ (3 * (n : Int) * n ≤ -d ∧ -d < 3 * ((n : Int) + 1) * ((n : Int) + 1)) ∧ Lw w.heap.size (classesTo d n) a c w w') := fun h1 h2 w => classes_any d w ⟨h1, h2⟩
  have HS : Hid (Sv w.heap.size 0 0 (w.alloc (.cells #[.int .i64 0, .int .i64 0] 24)) ∧ Below w.heap.size w (w.alloc (.cells #[.int .i64 0, .int .i64 0] 24))) := ⟨sv_new0 _ _ _ rfl _ _, al1 _ _⟩
  by_cases h1 : 0 ≤ d
  · have HCF : Hid (cfault d = (3, 0)) := by show _ = _; rw [cfault, if_pos (.inl h1)]
    rw [HCF.out]
    have t1 : decide (0 ≤ d) = true := decide_eq_true h1
    clear h1
    go_enter Try.func8, Try.ntmps8
    have q0 := HS.out.1.c0
    have q1 := HS.out.1.c1
    have q2 := HS.out.1.f0
    have q3 := HS.out.1.f1
    have q4 := HS.out.1.lt
    have HKK : Hid (Below _ _ _) := HS.out.2
    clear HS
    go_wp2
    refine bodyPost_ret (v := .tuple #[.slice none 0 0, .agg #[.int .i64 3, .int .i64 0]]) (by simp [results, Try.results8, go_sem, q0, q1, q4]) rfl ⟨none, 0, [], rfl, fun _ => rfl, fun h => ?_, fun h => absurd rfl h, ?_⟩
    · simp at h
    · first | exact al1 _ _ | (iterate 2 refine Below.setCell ?_ (by show w.heap.size ≤ w.heap.size; omega) _
                               exact HKK.out)
  have t1 : decide (0 ≤ d) = false := decide_eq_false h1
  by_cases h2 : d < -200000
  · have HCF : Hid (cfault d = (3, 0)) := by show _ = _; rw [cfault, if_pos (.inr h2)]
    rw [HCF.out]
    have t2 : decide (d < -200000) = true := decide_eq_true h2
    clear h1 h2
    go_enter Try.func8, Try.ntmps8
    have q0 := HS.out.1.c0
    have q1 := HS.out.1.c1
    have q2 := HS.out.1.f0
    have q3 := HS.out.1.f1
    have q4 := HS.out.1.lt
    have HKK : Hid (Below _ _ _) := HS.out.2
    clear HS
    go_wp2
    refine bodyPost_ret (v := .tuple #[.slice none 0 0, .agg #[.int .i64 3, .int .i64 0]]) (by simp [results, Try.results8, go_sem, q0, q1, q4]) rfl ⟨none, 0, [], rfl, fun _ => rfl, fun h => ?_, fun h => absurd rfl h, ?_⟩
    · simp at h
    · first | exact al1 _ _ | (iterate 2 refine Below.setCell ?_ (by show w.heap.size ≤ w.heap.size; omega) _
                               exact HKK.out)
  have t2 : decide (d < -200000) = false := decide_eq_false h2
  obtain ⟨R, hR⟩ : ∃ R, d % 4 = R := ⟨_, rfl⟩
  have HL2 : Hid (∀ w, Calls Try.prog 29 #[.int .i64 d, .int .i64 4] w fun e w' => e = .returned (.int .i64 R) ∧ w' = w) := fun w => by rw [← hR]; exact HL.out (by omega) (by omega) w
  have HC2 : Hid (∀ w, Calls Try.prog 30 #[.int .i64 d] w fun e w' => ∃ (n : Nat) (a : Option Addr) (c : Nat), e = .returned (.slice a (classesTo d n).length c) ∧ (3 * (n : Int) * n ≤ -d ∧ -d < 3 * ((n : Int) + 1) * ((n : Int) + 1)) ∧ Lw w.heap.size (classesTo d n) a c w w') := HC.out (by omega) (by omega)
  clear HL HC
  by_cases h3 : 1 < R
  · have HCF : Hid (cfault d = (7, 0)) := by show _ = _; rw [cfault, if_neg (by omega), hR, if_pos h3]
    rw [HCF.out]
    have t3 : decide (1 < R) = true := decide_eq_true h3
    clear h1 h2 h3 hR
    go_enter Try.func8, Try.ntmps8
    go_wp2_with fail
    refine (HL2.out _).mono ?_
    rintro e w1 ⟨rfl, hw⟩
    rw [← hw] at HS
    clear hw
    have q0 := HS.out.1.c0
    have q1 := HS.out.1.c1
    have q2 := HS.out.1.f0
    have q3 := HS.out.1.f1
    have q4 := HS.out.1.lt
    have HKK : Hid (Below _ _ _) := HS.out.2
    clear HS
    go_wp2
    refine bodyPost_ret (v := .tuple #[.slice none 0 0, .agg #[.int .i64 7, .int .i64 0]]) (by simp [results, Try.results8, go_sem, q0, q1, q4]) rfl ⟨none, 0, [], rfl, fun _ => rfl, fun h => ?_, fun h => absurd rfl h, ?_⟩
    · simp at h
    · first | exact al1 _ _ | (iterate 2 refine Below.setCell ?_ (by show w.heap.size ≤ w.heap.size; omega) _
                               exact HKK.out)
  · have HCF : Hid (cfault d = (0, 0)) := by show _ = _; rw [cfault, if_neg (by omega), hR, if_neg h3]
    rw [HCF.out]
    have t3 : decide (1 < R) = false := decide_eq_false h3
    clear h1 h2 h3 hR
    go_enter Try.func8, Try.ntmps8
    go_wp2_with fail
    refine (HL2.out _).mono ?_
    rintro e w1 ⟨rfl, hw⟩
    rw [← hw] at HS
    clear hw
    go_wp2_with fail
    refine (HC2.out _).mono ?_
    rintro e w2 ⟨n, a, c, rfl, hn, hL⟩
    have k2 := hL.k
    have HL : Hid ((3 * (n : Int) * n ≤ -d ∧ -d < 3 * ((n : Int) + 1) * ((n : Int) + 1)) ∧ w2.ownsRow w1.heap.size 32 3 (.slice a (classesTo d n).length c) (classesTo d n).length (qcells (classesTo d n))) := ⟨hn, hL.row⟩
    have HS2 : Hid (Sv w.heap.size 0 0 w2 ∧ Below w.heap.size w w2 ∧ w.heap.size < w1.heap.size) := ⟨HS.out.1.below k2, HS.out.2.trans (k2.mono HS.out.2.size), HS.out.1.lt⟩
    clear k2 hL hn HS
    obtain ⟨l, hl⟩ : ∃ l, l = classesTo d n := ⟨_, rfl⟩
    rw [← hl] at HL ⊢
    have HLn : Hid (l = classesTo d n) := hl
    clear hl
    have q0 := HS2.out.1.c0
    have q1 := HS2.out.1.c1
    have q2 := HS2.out.1.f0
    have q3 := HS2.out.1.f1
    have q4 := HS2.out.1.lt
    go_wp2
    refine bodyPost_ret (v := .tuple #[.slice a l.length c, .agg #[.int .i64 0, .int .i64 0]]) (by simp [results, Try.results8, go_sem, q0, q1, q4]) rfl ⟨a, c, l, rfl, fun h => absurd rfl h, fun _ => ⟨n, HL.out.1, HLn.out⟩, fun h => ?_, ?_⟩
    · obtain ⟨b, hb, hb2, hc⟩ := row_cells (n := 0) HL.out.2 h
      have hb3 := (HL.out.2.lt b (by rw [hb]; rfl)).1
      have hne : b ≠ w.heap.size := by have := HS2.out.2.2; omega
      refine ⟨b, hb, by simpa using hb2, fun j u hu => ?_⟩
      rw [← hc j u hu]
      have e : ∀ (W : World) (k : Nat) (v : Value), (W.setCell ⟨w.heap.size, k, none⟩ v).cell? ⟨b, j, none⟩ = W.cell? ⟨b, j, none⟩ := fun W k v => World.cell?_of_block (Below.heap_setCell W ⟨w.heap.size, k, none⟩ v b hne)
      rw [e, e]
    · iterate 2 refine Below.setCell ?_ (by show w.heap.size ≤ w.heap.size; omega) _
      exact HS2.out.2.1

end Go.Proofs.Ytijkanilpblogae
