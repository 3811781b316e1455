/- padic.digits, padic.Digits, padic.Teich. -/
import Derived.Test.YtidndbdjhapfaaaGreatDoorPaD
set_option linter.unusedSimpArgs false
set_option linter.unusedVariables false
set_option maxRecDepth 100000
namespace Go.Proofs.YtidndbdjhapfaaaGreatDoor
open Go.RowKit

theorem cl_of_makeI {w w' : World} {n : Nat} (h : w'.ownsRow w.heap.size 3 1 (.slice (some ⟨w.heap.size, 0, none⟩) n n) n (madeCells #[Value.int .i64 0] n).toList) : Cl w.heap.size (List.replicate n (.int .i64 0)) 3 w' := by
  obtain ⟨h1, h2 | ⟨g, cap, cur, e1, e2, e3, e4, e5, e6, e7⟩⟩ := h
  · obtain ⟨h2, rfl⟩ := h2
    simp at h2
  · simp at e1
    obtain ⟨rfl, rfl⟩ := e1
    unfold Cl
    rw [e3]
    have : cur.toList = (madeCells #[Value.int .i64 0] n).toList := by
      rw [← e7, List.take_of_length_le (by simp; omega)]
    have e8 : cur = madeCells #[Value.int .i64 0] n := Array.toList_inj.1 this
    rw [e8]
    congr 2
    apply Array.ext
    · simp [madeCells]
    · intro i h1 h2
      simp [madeCells, Nat.mod_one]

def icl (k : Nat) (B : Nat → Int) : List Value := (List.range k).map fun j => .int .i64 (B j)
theorem icl_zero (k : Nat) : icl k (fun _ => 0) = List.replicate k (.int .i64 0) := by
  apply List.ext_getElem?
  intro i
  by_cases hi : i < k
  · simp [icl, hi]
  · simp [icl, hi]
theorem icl_set {k i : Nat} (B : Nat → Int) (v : Int) : (icl k B).set i (.int .i64 v) = icl k (fun j => if j = i then v else B j) := by
  apply List.ext_getElem?
  intro j
  rw [List.getElem?_set]
  by_cases hj : i = j
  · subst hj
    by_cases hk : i < k
    · simp [icl, hk]
    · simp [icl, hk]
  · rw [if_neg hj]
    by_cases hk : j < k
    · simp [icl, hk, show j ≠ i from fun e => hj e.symm]
    · simp [icl, hk]
theorem icl_get {k : Nat} (B : Nat → Int) {i : Nat} (h : i < k) : (icl k B)[i]? = some (.int .i64 (B i)) := by simp [icl, h]

/-- The digits. -/
def dgs (x p k : Nat) : List Int := (List.range k).map fun j => ((x / p ^ j % p : Nat) : Int)
theorem dgs_len (x p k : Nat) : (dgs x p k).length = k := by simp [dgs]
theorem dgs_get (x p k : Nat) {i : Nat} (h : i < k) : (dgs x p k).getD i 0 = ((x / p ^ i % p : Nat) : Int) := by simp [dgs, List.getD_eq_getElem?_getD, h]
theorem is_of_icl {w : World} {b k : Nat} {B : Nat → Int} {l : List Int} (h : Cl b (icl k B) 3 w) (hl : l.length = k) (he : ∀ i, i < k → l.getD i 0 = B i) : IS w (.slice (some ⟨b, 0, none⟩) k k) l := by
  refine ⟨some ⟨b, 0, none⟩, b, 0, k, by rw [hl], fun _ => rfl, fun i hi => ?_, fun _ => h.lt⟩
  rw [Nat.zero_add, h.cell i, icl_get B (by omega), he i (by omega)]

/-- What Digits tells of a and b. -/
def Dg (P : Nat) (x y c at' : Int) : Prop :=
  (numB x = false ∧ c = 3 ∧ at' = 2) ∨ (numB x = true ∧ ((numB y = false ∧ c = 3 ∧ at' = 3) ∨ (numB y = true ∧ ((y % (P : Int) = 0 ∧ c = 4 ∧ at' = 3) ∨ (y % (P : Int) ≠ 0 ∧ c = 0 ∧ at' = 0)))))
theorem dg_ex (P : Nat) (x y : Int) : ∃ c a, Dg P x y c a := by
  cases h1 : numB x
  · exact ⟨3, 2, .inl ⟨h1, rfl, rfl⟩⟩
  · cases h2 : numB y
    · exact ⟨3, 3, .inr ⟨h1, .inl ⟨h2, rfl, rfl⟩⟩⟩
    · by_cases h3 : y % (P : Int) = 0
      · exact ⟨4, 3, .inr ⟨h1, .inr ⟨h2, .inl ⟨h3, rfl, rfl⟩⟩⟩⟩
      · exact ⟨0, 0, .inr ⟨h1, .inr ⟨h2, .inr ⟨h3, rfl, rfl⟩⟩⟩⟩

theorem nf_four {p k x y : Int} (hp : numB p = true) (hk : numB k = true) : nf 0 [p, k, x, y] = if numB x = true then (if numB y = true then (0, 0) else (3, 3)) else (3, 2) := by
  cases h1 : numB x <;> cases h2 : numB y <;> simp [nf, hp, hk, h1, h2]

theorem four_cells (a b c d : Int) (W : World) (B : Nat) (h0 : W.cell? ⟨B, 0, none⟩ = some (.int .i64 a)) (h1 : W.cell? ⟨B, 1, none⟩ = some (.int .i64 b)) (h2 : W.cell? ⟨B, 2, none⟩ = some (.int .i64 c)) (h3 : W.cell? ⟨B, 3, none⟩ = some (.int .i64 d)) :
    ∀ j, j < [a, b, c, d].length → W.cell? ⟨B, 0 + j, none⟩ = some (.int .i64 ([a, b, c, d].getD j 0)) := by
  intro j hj
  simp at hj
  rcases j with _ | _ | _ | _ | j
  · simpa using h0
  · simpa using h1
  · simpa using h2
  · simpa using h3
  · omega

theorem gcd_pow_one {P K : Nat} {b : Int} (hp : Pr P) (h : b % (P : Int) ≠ 0) : Int.gcd b ((P ^ K : Nat) : Int) = 1 := by
  refine Classical.byContradiction fun h1 => ?_
  have hpos : Int.gcd b ((P ^ K : Nat) : Int) ≠ 0 := by
    intro h0
    have := (Int.gcd_eq_zero_iff.1 h0).2
    have hP := hp.1
    have : 0 < P ^ K := Nat.pow_pos (by omega)
    omega
  obtain ⟨q, hq, hqd⟩ := pr_divisor (Int.gcd b ((P ^ K : Nat) : Int)) (by omega)
  have h2 : q ∣ P ^ K := Int.natCast_dvd_natCast.1 (Int.dvd_trans (Int.natCast_dvd_natCast.2 hqd) (Int.gcd_dvd_right ..))
  have h3 := pr_pow hq K h2
  rcases hp.2 q h3 with e | e
  · have := hq.1; omega
  · have h4 : (q : Int) ∣ b := Int.dvd_trans (Int.natCast_dvd_natCast.2 hqd) (Int.gcd_dvd_left ..)
    rw [e] at h4
    exact h (Int.emod_eq_zero_of_dvd h4)

end Go.Proofs.YtidndbdjhapfaaaGreatDoor
