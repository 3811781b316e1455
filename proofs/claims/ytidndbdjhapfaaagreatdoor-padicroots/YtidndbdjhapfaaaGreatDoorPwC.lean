/- prime.Is, padic.powerOf; the reference's IsPrime of small numbers. -/
import Derived.Test.YtidndbdjhapfaaaGreatDoorPwB
import Derived.Test.YtidndbdjhapfaaaGreatDoorWholeJ
import Derived.Test.YtidndbdjhapfaaaGreatDoorRsK
set_option linter.unusedSimpArgs false
set_option linter.unusedVariables false
set_option maxRecDepth 100000
namespace Go.Proofs.YtidndbdjhapfaaaGreatDoor
open Go.RowKit

/-- What all tell of p and k first: the power, or the fault. -/
def Pf (p k M c a : Int) : Prop :=
  ((p < 2 ∨ 1000000 < p) ∧ M = 0 ∧ c = 3 ∧ a = 0) ∨
  (∃ P : Nat, p = P ∧ 2 ≤ P ∧ P ≤ 1000000 ∧ ((¬ Pr P ∧ M = 0 ∧ c = 7 ∧ a = 0) ∨ (Pr P ∧ (((k < 1 ∨ 60 < k) ∧ M = 0 ∧ c = 3 ∧ a = 1) ∨
    ∃ K : Nat, k = K ∧ 1 ≤ K ∧ K ≤ 60 ∧ ((1000000000000000000 < P ^ K ∧ M = 0 ∧ c = 9 ∧ a = 1) ∨ (P ^ K ≤ 1000000000000000000 ∧ M = (P ^ K : Nat) ∧ c = 0 ∧ a = 0))))))

theorem pf_ex (p k : Int) : ∃ M c a, Pf p k M c a := by
  by_cases h1 : p < 2 ∨ 1000000 < p
  · exact ⟨0, 3, 0, .inl ⟨h1, rfl, rfl, rfl⟩⟩
  · obtain ⟨P, rfl⟩ : ∃ P : Nat, p = P := ⟨p.toNat, by omega⟩
    by_cases h2 : Pr P
    · by_cases h3 : k < 1 ∨ 60 < k
      · exact ⟨0, 3, 1, .inr ⟨P, rfl, by omega, by omega, .inr ⟨h2, .inl ⟨h3, rfl, rfl, rfl⟩⟩⟩⟩
      · obtain ⟨K, rfl⟩ : ∃ K : Nat, k = K := ⟨k.toNat, by omega⟩
        by_cases h4 : 1000000000000000000 < P ^ K
        · exact ⟨0, 9, 1, .inr ⟨P, rfl, by omega, by omega, .inr ⟨h2, .inr ⟨K, rfl, by omega, by omega, .inl ⟨h4, rfl, rfl, rfl⟩⟩⟩⟩⟩
        · exact ⟨(P ^ K : Nat), 0, 0, .inr ⟨P, rfl, by omega, by omega, .inr ⟨h2, .inr ⟨K, rfl, by omega, by omega, .inr ⟨by omega, rfl, rfl, rfl⟩⟩⟩⟩⟩
    · exact ⟨0, 7, 0, .inr ⟨P, rfl, by omega, by omega, .inl ⟨h2, rfl, rfl, rfl⟩⟩⟩

/-- Without a fault. -/
structure Pg (p k M : Int) (P K : Nat) : Prop where
  p : p = P
  k : k = K
  pr : Pr P
  p2 : 2 ≤ P
  p6 : P ≤ 1000000
  k1 : 1 ≤ K
  k6 : K ≤ 60
  m : M = (P ^ K : Nat)
  m18 : P ^ K ≤ 1000000000000000000
theorem Pf.good {p k M c a : Int} (h : Pf p k M c a) : (c = 0 ∧ a = 0 ∧ ∃ P K, Pg p k M P K) ∨ (c ≠ 0 ∧ M = 0 ∧ 0 ≤ c ∧ c ≤ 9 ∧ 0 ≤ a ∧ a ≤ 1) := by
  rcases h with ⟨_, rfl, rfl, rfl⟩ | ⟨P, rfl, h2, h3, ⟨_, rfl, rfl, rfl⟩ | ⟨hp, ⟨_, rfl, rfl, rfl⟩ | ⟨K, rfl, hk, hk2, ⟨_, rfl, rfl, rfl⟩ | ⟨hm, rfl, rfl, rfl⟩⟩⟩⟩
  · right; omega
  · right; omega
  · right; omega
  · right; omega
  · exact .inl ⟨rfl, rfl, P, K, ⟨rfl, rfl, hp, h2, h3, hk, hk2, rfl, hm⟩⟩

theorem one_cell (a : Int) (W : World) (B : Nat) (h0 : W.cell? ⟨B, 0, none⟩ = some (.int .i64 a)) :
    ∀ j, j < [a].length → W.cell? ⟨B, 0 + j, none⟩ = some (.int .i64 ([a].getD j 0)) := by
  intro j hj
  simp at hj
  subst hj
  simpa using h0

theorem nf_one {a : Int} (h : numB a = true) : nf 0 [a] = (0, 0) := nf_none _ (fun j hj => by simp at hj; subst hj; simpa using h)

set_option maxHeartbeats 400000 in
theorem Is_any (n : Nat) (b : Bool) (w : World) (hn : 2 ≤ n) (hn2 : n ≤ 1000000) (hb : b = true ↔ Pr n) (hT : Tb w) :
    Calls Tryz.prog 32 #[.int .i64 n] w fun e w' => e = .returned (.tuple #[.bool b, .agg #[.int .i64 0, .int .i64 0]]) ∧ Below w.heap.size w w' := by
  have HCD : Hid (nf 0 [(n : Int)] = (0, 0)) := nf_one (by simp [numB]; omega)
  have HI : Hid (∀ w, Tb w → Calls Tryz.prog 60 #[.int .i64 n] w fun e w' => e = .returned (.bool b) ∧ Below w.heap.size w w') := fun w h => isPrime_any n b w hn hn2 hb h
  have HT : Hid (Tb w) := hT
  clear hT hb
  go_enter Tryz.func32, Tryz.ntmps32
  go_wp2_with fail
  refine (numbersFault_any [(n : Int)] _ 0 _ _ (by simp) ?_ ?_).mono ?_
  · simp
  · exact one_cell n _ _ (by simp)
  rw [HCD.out]
  rintro e w1 ⟨rfl, hb⟩
  have hz : w.heap.size < w1.heap.size := by have := hb.size; simp at this; omega
  have q0 : w1.cell? ⟨w.heap.size, 0, none⟩ = some (.int .i64 0) := cell_later hb (by simp)
  have q1 : w1.cell? ⟨w.heap.size, 1, none⟩ = some (.int .i64 0) := cell_later hb (by simp)
  have q2 : w1.frozen? ⟨w.heap.size, 0, none⟩ = false := (hb.frozen (p := ⟨w.heap.size, 0, none⟩) (by simp; omega)).trans (by simp)
  have q3 : w1.frozen? ⟨w.heap.size, 1, none⟩ = false := (hb.frozen (p := ⟨w.heap.size, 1, none⟩) (by simp; omega)).trans (by simp)
  have K1 : Below w.heap.size w w1 := (((Below.refl _ w).alloc (Nat.le_refl _) _).alloc (by simp) _).trans (hb.mono (by simp; omega))
  have S1 : Sv w.heap.size 0 0 w1 := ⟨q0, q1, q2, q3, hz⟩
  have HS1 : Hid (Sv w.heap.size 0 0 w1) := S1
  have HK1 : Hid (Below w.heap.size w w1) := K1
  clear S1 K1 hb q0 q1 q2 q3
  go_wp2_with fail
  obtain ⟨W2, hW2⟩ : ∃ W2, W2 = w1.alloc (.cells #[.int .i64 0, .int .i64 0] 25) := ⟨_, rfl⟩
  rw [← hW2]
  have K2 : Below w.heap.size w W2 := by rw [hW2]; exact HK1.out.alloc (by omega) _
  have S2 : Sv w.heap.size 0 0 W2 := by rw [hW2]; exact HS1.out.alloc _ _
  refine (HI.out W2 (HT.out.below K2)).mono ?_
  rintro e w3 ⟨rfl, k3⟩
  have K3 : Below w.heap.size w w3 := K2.trans (k3.mono (by have := S2.lt; omega))
  have S3 := S2.below k3
  have q0 := S3.c0
  have q1 := S3.c1
  have q2 := S3.f0
  have q3 := S3.f1
  have hz := S3.lt
  clear hW2 K2 S2 k3
  go_wp2
  exact bodyPost_ret (v := .tuple #[.bool b, .agg #[.int .i64 0, .int .i64 0]]) (by simp [results, Tryz.results32, go_sem, q0, q1, hz]) rfl ⟨rfl, (K3.setCell (by simp) _).setCell (by simp) _⟩

end Go.Proofs.YtidndbdjhapfaaaGreatDoor
