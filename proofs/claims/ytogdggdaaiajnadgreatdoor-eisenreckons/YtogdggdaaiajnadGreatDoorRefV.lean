/- The reference's PairsFault. -/
import Derived.Test.YtogdggdaaiajnadGreatDoorRefR
import Derived.Test.YtogdggdaaiajnadGreatDoorWholeD
set_option linter.unusedSimpArgs false
set_option linter.unusedVariables false
set_option maxRecDepth 100000
namespace Go.Proofs.YtogdggdaaiajnadGreatDoor
open Go.RowKit

/-- Parts that may be handed in. -/
def okP (x : Pp) : Bool := !decide (500000000 < x.a) && (!decide (x.a < -500000000) && (!decide (500000000 < x.b) && !decide (x.b < -500000000)))
theorem okP_true {x : Pp} (h : okP x = true) : Bd 500000000 x := by
  simp [okP] at h
  exact ⟨by omega, by omega, by omega, by omega⟩
/-- The fault of the first that is too large. -/
def pfl : Nat → List Pp → Int × Int
  | _, [] => (0, 0)
  | i, x :: t => if okP x then pfl (i + 1) t else (3, i)
theorem pfl_none (l : List Pp) (h : ∀ j, j < l.length → okP (l.getD j ⟨0, 0⟩) = true) : ∀ i, pfl i l = (0, 0) := by
  induction l with
  | nil => intro i; rfl
  | cons x t ih =>
    intro i
    have h0 := h 0 (by simp)
    simp at h0
    rw [pfl, if_pos h0]
    exact ih (fun j hj => by have := h (j + 1) (by simpa using hj); simpa using this) (i + 1)
theorem pfl_hit : ∀ (l : List Pp) (k i : Nat), k < l.length → (∀ j, j < k → okP (l.getD j ⟨0, 0⟩) = true) → okP (l.getD k ⟨0, 0⟩) = false → pfl i l = (3, ((i + k : Nat) : Int)) := by
  intro l
  induction l with
  | nil => intro k i h; simp at h
  | cons x t ih =>
    intro k i hk hj hb
    cases k with
    | zero =>
      simp at hb
      rw [pfl, if_neg (by simp [hb])]; simp
    | succ k =>
      have h0 := hj 0 (by omega)
      simp at h0
      rw [pfl, if_pos h0, ih k (i + 1) (by simpa using hk) (fun j hj' => by have := hj (j + 1) (by omega); simpa using this) (by simpa using hb)]
      congr 2; omega

set_option maxHeartbeats 1000000 in
theorem PairsFault_any (l : List Pp) (b cap : Nat) (w : World) (hl : l.length ≤ 1000000) (hb : b < w.heap.size)
    (hc : ∀ j, j < l.length → w.cell? ⟨b, j * 2, none⟩ = some (.int .i64 (l.getD j ⟨0, 0⟩).a) ∧ w.cell? ⟨b, j * 2 + 1, none⟩ = some (.int .i64 (l.getD j ⟨0, 0⟩).b)) :
    Calls Tryz.prog 9 #[.slice (some ⟨b, 0, none⟩) l.length cap] w fun e w' => e = .returned (.agg #[.int .i64 (pfl 0 l).1, .int .i64 (pfl 0 l).2]) ∧ Below w.heap.size w w' := by
  go_enter Tryz.func9, Tryz.ntmps9
  go_wp2
  go_loop [3] (fun i => ∃ k : Nat, k ≤ l.length ∧ i = .int .i64 k ∧ Hid (∀ j, j < k → okP (l.getD j ⟨0, 0⟩) = true)) (fun i => l.length - (intOf i).toNat)
  case atStart => exact ⟨0, Nat.zero_le _, rfl, fun j hj => absurd hj (Nat.not_lt_zero _)⟩
  case round =>
    obtain ⟨k, hk, rfl, HOK⟩ := hrel
    have HC := hc
    clear hc
    by_cases hlt : k < l.length
    · obtain ⟨hc0, hc1⟩ := HC k hlt
      obtain ⟨x, hx⟩ : ∃ x, x = l.getD k ⟨0, 0⟩ := ⟨_, rfl⟩
      rw [← hx] at hc0 hc1
      have HX : Hid (x = l.getD k ⟨0, 0⟩) := hx
      clear HC hx
      obtain ⟨p1, h1⟩ : ∃ p, decide (500000000 < x.a) = p := ⟨_, rfl⟩
      obtain ⟨p2, h2⟩ : ∃ p, decide (x.a < -500000000) = p := ⟨_, rfl⟩
      obtain ⟨p3, h3⟩ : ∃ p, decide (500000000 < x.b) = p := ⟨_, rfl⟩
      obtain ⟨p4, h4⟩ : ∃ p, decide (x.b < -500000000) = p := ⟨_, rfl⟩
      have HP : Hid (okP x = (!p1 && (!p2 && (!p3 && !p4)))) := by show _ = _; unfold okP; rw [h1, h2, h3, h4]
      have hcase : (p1 = true) ∨ (p1 = false ∧ p2 = true) ∨ (p1 = false ∧ p2 = false ∧ p3 = true) ∨ (p1 = false ∧ p2 = false ∧ p3 = false ∧ p4 = true) ∨ (p1 = false ∧ p2 = false ∧ p3 = false ∧ p4 = false) := by
        cases p1 <;> cases p2 <;> cases p3 <;> cases p4 <;> simp
      rcases hcase with rfl | ⟨rfl, rfl⟩ | ⟨rfl, rfl, rfl⟩ | ⟨rfl, rfl, rfl, rfl⟩ | ⟨rfl, rfl, rfl, rfl⟩
      case inr.inr.inr.inr =>
        go_wp2
        go_round
        case rel =>
          refine ⟨k + 1, by omega, by go_num, fun j hj => ?_⟩
          by_cases hjk : j = k
          · subst hjk; rw [← HX.out]; exact HP.out
          · exact HOK.out j (by omega)
        case measure => simp [intOf]; omega
      all_goals
        go_wp2_with fail
        refine (F_any 3 k _).mono ?_
        rintro e w1 ⟨rfl, hb1⟩
        have hz : w.heap.size < w1.heap.size := by have := hb1.size; simp at this; omega
        have q0 : w1.cell? ⟨w.heap.size, 0, none⟩ = some (.int .i64 0) := cell_later hb1 (by simp)
        have q1 : w1.cell? ⟨w.heap.size, 1, none⟩ = some (.int .i64 0) := cell_later hb1 (by simp)
        have q2 : w1.frozen? ⟨w.heap.size, 0, none⟩ = false := (hb1.frozen (p := ⟨w.heap.size, 0, none⟩) (by simp)).trans (by simp)
        have q3 : w1.frozen? ⟨w.heap.size, 1, none⟩ = false := (hb1.frozen (p := ⟨w.heap.size, 1, none⟩) (by simp)).trans (by simp)
        go_wp2
        refine bodyPost_ret (v := .agg #[.int .i64 3, .int .i64 k]) (by simp [results, Tryz.results9, go_sem, q0, q1, hz]) rfl ⟨?_, ?_⟩
        · rw [pfl_hit l k 0 hlt HOK.out (by rw [← HX.out, HP.out]; simp)]; simp
        · refine Below.setCell (Below.setCell (Below.trans (Below.alloc (Below.refl _ _) ?_ _) (hb1.mono ?_)) ?_ _) ?_ _ <;> simp
    · go_wp2
      refine bodyPost_ret (v := .agg #[.int .i64 0, .int .i64 0]) (by simp [results, Tryz.results9, go_sem]) rfl ⟨?_, ?_⟩
      · rw [pfl_none l (fun j hj => HOK.out j (by omega)) 0]
      · exact Below.alloc (Below.refl _ _) (Nat.le_refl _) _

end Go.Proofs.YtogdggdaaiajnadGreatDoor
