/- The document's examples: padicBegun. -/
import Derived.Test.YtidndbdjhapfaaaGreatDoorPaF
set_option linter.unusedSimpArgs false
set_option linter.unusedVariables false
set_option maxRecDepth 100000
namespace Go.Proofs.YtidndbdjhapfaaaGreatDoor
open Go.RowKit

theorem pr_seven : Pr 7 := ⟨by decide, fun d hd => by
  have h : ∀ d, d < 8 → d ∣ 7 → d = 1 ∨ d = 7 := by decide
  exact h d (by have := Nat.le_of_dvd (by decide) hd; omega) hd⟩
theorem pr_five : Pr 5 := ⟨by decide, fun d hd => by
  have h : ∀ d, d < 6 → d ∣ 5 → d = 1 ∨ d = 5 := by decide
  exact h d (by have := Nat.le_of_dvd (by decide) hd; omega) hd⟩

theorem pf_seven {M c a : Int} (h : Pf 7 3 M c a) : c = 0 := by
  rcases h with ⟨h, _⟩ | ⟨P, hP, _, _, ⟨h, _⟩ | ⟨_, ⟨h, _⟩ | ⟨K, hK, _, _, ⟨h, _⟩ | ⟨_, _, h, _⟩⟩⟩⟩
  · omega
  · obtain rfl : P = 7 := by omega
    exact absurd pr_seven h
  · omega
  · obtain rfl : P = 7 := by omega
    obtain rfl : K = 3 := by omega
    exact absurd h (by decide)
  · exact h
theorem pf_five {M c a : Int} (h : Pf 5 3 M c a) : c = 0 := by
  rcases h with ⟨h, _⟩ | ⟨P, hP, _, _, ⟨h, _⟩ | ⟨_, ⟨h, _⟩ | ⟨K, hK, _, _, ⟨h, _⟩ | ⟨_, _, h, _⟩⟩⟩⟩
  · omega
  · obtain rfl : P = 5 := by omega
    exact absurd pr_five h
  · omega
  · obtain rfl : P = 5 := by omega
    obtain rfl : K = 3 := by omega
    exact absurd h (by decide)
  · exact h

theorem only_108 : ∀ y, y < 343 → y % 7 = 3 → (y * y + 341) % 343 = 0 → y = 108 := by decide +kernel
theorem only_57 : ∀ y, y < 125 → y % 5 = 2 → y ^ 5 % 125 = y → y = 57 := by decide +kernel

theorem lift_seven {y c a : Int} (h : LiOut 7 3 [-2, 0, 1] 3 y c a) : y = 108 ∧ c = 0 ∧ a = 0 := by
  rcases h with ⟨_, h, M, hp⟩ | ⟨M, P, K, hg, ⟨_, hc, hp⟩ | ⟨_, ⟨_, hc, hk⟩ | ⟨_, rfl, rfl, h0, h1, h2, h3⟩⟩⟩
  · exact absurd (pf_seven hp) h
  · exfalso
    rcases hp with ⟨h, _⟩ | ⟨_, ⟨i, hi, hb⟩, _⟩ | ⟨_, _, h, _⟩
    · simp at h
    · have : ∀ i, i < 3 → numB ([-2, 0, 1].getD i 0) = true := by decide
      rw [this i (by simpa using hi)] at hb; cases hb
    · exact hc h
  · exfalso
    have e := hg.p
    obtain rfl : P = 7 := by omega
    rcases hk with ⟨h, _⟩ | ⟨_, _, ⟨h, _⟩ | ⟨_, ⟨h, _⟩ | ⟨_, h, _⟩⟩⟩
    · omega
    · exact h (by decide)
    · exact absurd h (by decide)
    · exact hc h
  · refine ⟨?_, rfl, rfl⟩
    have e := hg.p
    have e2 := hg.k
    have e3 := hg.m
    obtain rfl : P = 7 := by omega
    obtain rfl : K = 3 := by omega
    have e4 : M = 343 := by rw [e3]; decide
    subst e4
    obtain ⟨n, rfl⟩ : ∃ n : Nat, y = n := ⟨y.toNat, by omega⟩
    have := only_108 n (by omega) (by omega) (by
      have e5 : pv [-2, 0, 1] (n : Int) = ((n * n : Nat) : Int) - 2 := by simp [pv]; omega
      rw [e5] at h3
      omega)
    omega

theorem teich_five {x c a : Int} (h : TeOut 5 3 2 x c a) : x = 57 ∧ c = 0 ∧ a = 0 := by
  rcases h with ⟨_, h, M, hp⟩ | ⟨M, P, K, hg, ⟨h, _⟩ | ⟨_, _, rfl, rfl, X, rfl, h1, h2, h3⟩⟩
  · exact absurd (pf_five hp) h
  · omega
  · refine ⟨?_, rfl, rfl⟩
    have e := hg.p
    have e2 := hg.k
    obtain rfl : P = 5 := by omega
    obtain rfl : K = 3 := by omega
    have := only_57 X h1 (by omega) h3
    omega

set_option maxHeartbeats 400000 in
theorem padicBegun_any (w : World) (hT : Tb w) :
    Calls Tryz.prog 4 #[] w fun e w' => e = .returned (.bool true) ∧ Below w.heap.size w w' := by
  have K0 : Below w.heap.size w (w.alloc (.cells #[.int .i64 (-2), .int .i64 0, .int .i64 1] 3)) := (Below.refl _ w).alloc (Nat.le_refl _) _
  have HL : Hid (Calls Tryz.prog 10 #[.int .i64 7, .int .i64 3, .slice (some ⟨w.heap.size, 0, none⟩) 3 3, .int .i64 3] (w.alloc (.cells #[.int .i64 (-2), .int .i64 0, .int .i64 1] 3)) fun e w' => e = .returned (.tuple #[.int .i64 108, .agg #[.int .i64 0, .int .i64 0]]) ∧ Below w.heap.size w w') := by
    refine (Lift_any 7 3 3 (.slice (some ⟨w.heap.size, 0, none⟩) 3 3) [-2, 0, 1] _ ?_ (by simp) (hT.alloc _)).mono ?_
    · refine ⟨some ⟨w.heap.size, 0, none⟩, w.heap.size, 0, 3, rfl, fun _ => rfl, fun i hi => ?_, fun _ => by simp⟩
      have C := Cl.new [.int .i64 (-2), .int .i64 0, .int .i64 1] 3 w
      rw [C.cell (0 + i)]
      rcases i with _ | _ | _ | i
      · rfl
      · rfl
      · rfl
      · simp at hi; omega
    · rintro e w' ⟨y, c, a, rfl, h, k⟩
      obtain ⟨rfl, rfl, rfl⟩ := lift_seven h
      exact ⟨rfl, K0.trans (k.mono (by simp))⟩
  have HTe : Hid (∀ w, Tb w → Calls Tryz.prog 11 #[.int .i64 5, .int .i64 3, .int .i64 2] w fun e w' => e = .returned (.tuple #[.int .i64 57, .agg #[.int .i64 0, .int .i64 0]]) ∧ Below w.heap.size w w') := by
    intro w h
    refine (Teich_any 5 3 2 w h).mono ?_
    rintro e w' ⟨y, c, a, rfl, h, k⟩
    obtain ⟨rfl, rfl, rfl⟩ := teich_five h
    exact ⟨rfl, k⟩
  have HT : Hid (Tb w) := hT
  clear hT K0
  go_enter Tryz.func4, Tryz.ntmps4
  go_wp2_with fail
  refine HL.out.mono ?_
  rintro e w1 ⟨rfl, k1⟩
  obtain ⟨W2, hW2⟩ : ∃ W2, W2 = w1.alloc (.cells #[.int .i64 0, .int .i64 0] 25) := ⟨_, rfl⟩
  have S2 : Sv w1.heap.size 0 0 W2 := by rw [hW2]; exact Sv.new 0 0 w1
  have K2 : Below w.heap.size w W2 := by rw [hW2]; exact k1.alloc k1.size _
  clear k1
  go_wp2_with fail
  rw [← hW2]
  clear hW2
  refine (HTe.out W2 (HT.out.below K2)).mono ?_
  rintro e w3 ⟨rfl, k3⟩
  have S3 := S2.below k3
  have K3 : Below w.heap.size w w3 := K2.trans (k3.mono K2.size)
  have e0 : ∀ x : Obj, (w3.alloc x).cell? ⟨w1.heap.size, 0, none⟩ = some (.int .i64 0) := fun x => (S3.below ((Below.refl _ _).alloc (Nat.le_refl _) x)).c0
  have HK : Hid (∀ o, Below w.heap.size w (w3.alloc o)) := fun o => K3.alloc K3.size _
  clear S2 K2 k3 K3 S3
  go_wp2
  go_ret
  exact ⟨rfl, HK.out _⟩

end Go.Proofs.YtidndbdjhapfaaaGreatDoor
