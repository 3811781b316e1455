import Derived.Test.YtcnfhndejkngkaaGreatDoorJzC
section
/- The program: bound.Between, bound.Within. -/
set_option linter.unusedSimpArgs false
set_option linter.unusedVariables false
set_option maxRecDepth 100000
namespace Go.Proofs.YtcnfhndejkngkaaGreatDoor
open Go.RowKit

def bwB (lo hi x : Int) : Bool := decide (lo ≤ x) && decide (x ≤ hi)
/-- The fault of the first that is not from lo to hi: its code and place. -/
def nb (lo hi : Int) : Nat → List Int → Int × Int
  | _, [] => (0, 0)
  | i, x :: r => if bwB lo hi x = true then nb lo hi (i + 1) r else (3, i)
theorem nb_skip (lo hi : Int) (xs : List Int) (k : Nat) (hk : k ≤ xs.length) (h : ∀ j, j < k → bwB lo hi (xs.getD j 0) = true) : nb lo hi 0 xs = nb lo hi k (xs.drop k) := by
  induction k with
  | zero => rfl
  | succ n ih =>
    rw [ih (by omega) (fun j hj => h j (by omega)), List.drop_eq_getElem_cons (by omega), nb]
    have := h n (by omega)
    rw [List.getD_eq_getElem?_getD, List.getElem?_eq_getElem (by omega), Option.getD_some] at this
    rw [if_pos this]
theorem nb_none (lo hi : Int) (xs : List Int) (h : ∀ j, j < xs.length → bwB lo hi (xs.getD j 0) = true) : nb lo hi 0 xs = (0, 0) := by
  rw [nb_skip lo hi xs xs.length (Nat.le_refl _) h, List.drop_length]; rfl
theorem nb_hit (lo hi : Int) (xs : List Int) (k : Nat) (hk : k < xs.length) (h : ∀ j, j < k → bwB lo hi (xs.getD j 0) = true) (hb : bwB lo hi (xs.getD k 0) = false) : nb lo hi 0 xs = (3, (k : Int)) := by
  rw [nb_skip lo hi xs k (by omega) h, List.drop_eq_getElem_cons hk, nb]
  rw [List.getD_eq_getElem?_getD, List.getElem?_eq_getElem hk, Option.getD_some] at hb
  rw [if_neg (by simp [hb])]

def inB (m x : Int) : Bool := decide (-m ≤ x) && decide (x ≤ m)
/-- The fault of the first that is above m in size: its code and place. -/
def nw (m : Int) : Nat → List Int → Int × Int
  | _, [] => (0, 0)
  | i, x :: r => if inB m x = true then nw m (i + 1) r else (3, i)
theorem nw_skip (m : Int) (xs : List Int) (k : Nat) (hk : k ≤ xs.length) (h : ∀ j, j < k → inB m (xs.getD j 0) = true) : nw m 0 xs = nw m k (xs.drop k) := by
  induction k with
  | zero => rfl
  | succ n ih =>
    rw [ih (by omega) (fun j hj => h j (by omega)), List.drop_eq_getElem_cons (by omega), nw]
    have := h n (by omega)
    rw [List.getD_eq_getElem?_getD, List.getElem?_eq_getElem (by omega), Option.getD_some] at this
    rw [if_pos this]
theorem nw_none (m : Int) (xs : List Int) (h : ∀ j, j < xs.length → inB m (xs.getD j 0) = true) : nw m 0 xs = (0, 0) := by
  rw [nw_skip m xs xs.length (Nat.le_refl _) h, List.drop_length]; rfl
theorem nw_hit (m : Int) (xs : List Int) (k : Nat) (hk : k < xs.length) (h : ∀ j, j < k → inB m (xs.getD j 0) = true) (hb : inB m (xs.getD k 0) = false) : nw m 0 xs = (3, (k : Int)) := by
  rw [nw_skip m xs k (by omega) h, List.drop_eq_getElem_cons hk, nw]
  rw [List.getD_eq_getElem?_getD, List.getElem?_eq_getElem hk, Option.getD_some] at hb
  rw [if_neg (by simp [hb])]

set_option maxHeartbeats 400000 in
theorem between_any (lo hi : Int) (xs : List Int) (b o cap : Nat) (w : World) (hl : xs.length ≤ 1000000000) (hb : b < w.heap.size)
    (hc : ∀ j, j < xs.length → w.cell? ⟨b, o + j, none⟩ = some (.int .i64 (xs.getD j 0))) :
    Calls Tryz.prog 44 #[.int .i64 lo, .int .i64 hi, .slice (some ⟨b, o, none⟩) xs.length cap] w fun e w' => e = .returned (.agg #[.int .i64 (nb lo hi 0 xs).1, .int .i64 (nb lo hi 0 xs).2]) ∧ Below w.heap.size w w' := by
  go_enter Tryz.func44, Tryz.ntmps44
  go_wp2
  go_loop [11] (fun i => ∃ k : Nat, k ≤ xs.length ∧ i = .int .i64 k ∧ ∀ j, j < k → bwB lo hi (xs.getD j 0) = true) (fun i => xs.length - (intOf i).toNat)
  case atStart => exact ⟨0, Nat.zero_le _, rfl, fun j hj => absurd hj (Nat.not_lt_zero _)⟩
  case round =>
    obtain ⟨k, hk, rfl, hok⟩ := hrel
    have HOK : Hid (∀ j, j < k → bwB lo hi (xs.getD j 0) = true) := hok
    have HC := hc
    clear hok hc
    by_cases hlt : k < xs.length
    · have hck := HC k hlt
      obtain ⟨x, hx⟩ : ∃ x, x = xs.getD k 0 := ⟨_, rfl⟩
      rw [← hx] at hck
      have HX : Hid (x = xs.getD k 0) := hx
      clear HC hx
      by_cases h1 : x < lo
      · have t1 : decide (x < lo) = true := decide_eq_true h1
        have hn : Hid (bwB lo hi x = false) := by show _ = _; simp [bwB]; omega
        clear h1
        go_wp2
        refine bodyPost_ret (v := .agg #[.int .i64 3, .int .i64 k]) (by simp [results, Tryz.results44, go_sem]) rfl ⟨?_, ?_⟩
        · rw [nb_hit lo hi xs k hlt HOK.out (by rw [← HX.out]; exact hn.out)]
        · exact Below.alloc (Below.refl _ _) (Nat.le_refl _) _
      · have t1 : decide (x < lo) = false := decide_eq_false h1
        by_cases h2 : hi < x
        · have t2 : decide (hi < x) = true := decide_eq_true h2
          have hn : Hid (bwB lo hi x = false) := by show _ = _; simp [bwB]; omega
          clear h1 h2
          go_wp2
          refine bodyPost_ret (v := .agg #[.int .i64 3, .int .i64 k]) (by simp [results, Tryz.results44, go_sem]) rfl ⟨?_, ?_⟩
          · rw [nb_hit lo hi xs k hlt HOK.out (by rw [← HX.out]; exact hn.out)]
          · exact Below.alloc (Below.refl _ _) (Nat.le_refl _) _
        · have t2 : decide (hi < x) = false := decide_eq_false h2
          have hn : Hid (bwB lo hi x = true) := by show _ = _; simp [bwB]; omega
          clear h1 h2
          go_wp2
          go_round
          case rel =>
            refine ⟨k + 1, by omega, by go_num, fun j hj => ?_⟩
            by_cases hjk : j = k
            · subst hjk; rw [← HX.out]; exact hn.out
            · exact HOK.out j (by omega)
          case measure => simp [intOf]; omega
    · go_wp2
      refine bodyPost_ret (v := .agg #[.int .i64 0, .int .i64 0]) (by simp [results, Tryz.results44, go_sem]) rfl ⟨?_, ?_⟩
      · rw [nb_none lo hi xs (fun j hj => HOK.out j (by omega))]
      · exact Below.alloc (Below.refl _ _) (Nat.le_refl _) _


theorem nw_nb (m : Int) : ∀ (xs : List Int) (i : Nat), nw m i xs = nb (-m) m i xs
  | [], _ => rfl
  | x :: r, i => by rw [nw, nb, nw_nb m r (i + 1)]; rfl

set_option maxHeartbeats 400000 in
theorem bwithin_any (m : Int) (xs : List Int) (b o cap : Nat) (w : World) (hm0 : 0 ≤ m) (hm1 : m ≤ 1000000000000000000) (hl : xs.length ≤ 1000000000) (hb : b < w.heap.size)
    (hc : ∀ j, j < xs.length → w.cell? ⟨b, o + j, none⟩ = some (.int .i64 (xs.getD j 0))) :
    Calls Tryz.prog 123 #[.int .i64 m, .slice (some ⟨b, o, none⟩) xs.length cap] w fun e w' => e = .returned (.agg #[.int .i64 (nw m 0 xs).1, .int .i64 (nw m 0 xs).2]) ∧ Below w.heap.size w w' := by
  obtain ⟨K, hK⟩ : ∃ K, K = nw m 0 xs := ⟨_, rfl⟩
  have HB : Hid (∀ w', Below w.heap.size w w' → Calls Tryz.prog 44 #[.int .i64 (-m), .int .i64 m, .slice (some ⟨b, o, none⟩) xs.length cap] w' fun e w'' => e = .returned (.agg #[.int .i64 K.1, .int .i64 K.2]) ∧ Below w'.heap.size w' w'') := fun w' k => by
    rw [hK, nw_nb]
    exact between_any (-m) m xs b o cap w' hl (Nat.lt_of_lt_of_le hb k.size) (fun j hj => (k.cell (p := ⟨b, o + j, none⟩) hb).trans (hc j hj))
  rw [← hK]
  clear hK hc hl hb
  go_enter Tryz.func123, Tryz.ntmps123
  go_wp2_with fail
  have K0 : Below w.heap.size w (w.alloc (.cells #[.int .i64 0, .int .i64 0] 25)) := Below.alloc (Below.refl _ _) (Nat.le_refl _) _
  refine (HB.out _ K0).mono ?_
  rintro e w1 ⟨rfl, k1⟩
  have hz : w.heap.size < w1.heap.size := by have := k1.size; simp at this; omega
  have q0 : w1.cell? ⟨w.heap.size, 0, none⟩ = some (.int .i64 0) := cell_later k1 (by simp)
  have q1 : w1.cell? ⟨w.heap.size, 1, none⟩ = some (.int .i64 0) := cell_later k1 (by simp)
  have q2 : w1.frozen? ⟨w.heap.size, 0, none⟩ = false := (k1.frozen (p := ⟨w.heap.size, 0, none⟩) (by simp)).trans (by simp)
  have q3 : w1.frozen? ⟨w.heap.size, 1, none⟩ = false := (k1.frozen (p := ⟨w.heap.size, 1, none⟩) (by simp)).trans (by simp)
  have HK : Hid (Below w.heap.size w w1) := K0.trans (k1.mono (by simp))
  clear K0 k1 HB
  go_wp2
  refine bodyPost_ret (v := .agg #[.int .i64 K.1, .int .i64 K.2]) (by simp [results, Tryz.results123, go_sem, q0, q1, hz]) rfl ⟨rfl, ?_⟩
  exact Below.setCell (Below.setCell HK.out (Nat.le_refl _) _) (Nat.le_refl _) _

end Go.Proofs.YtcnfhndejkngkaaGreatDoor
end

section
/- Contracts: the faults of numbers, and the calls Gcd and Bezout. -/
set_option linter.unusedSimpArgs false
set_option linter.unusedVariables false
set_option maxRecDepth 100000
namespace Go.Proofs.YtcnfhndejkngkaaGreatDoor
open Go.RowKit

/-- The fault of the first that is no number: its code and place. -/
def nf : Nat → List Int → Int × Int
  | _, [] => (0, 0)
  | i, x :: r => if numB x = true then nf (i + 1) r else (3, i)

theorem nf_skip (xs : List Int) (k : Nat) (hk : k ≤ xs.length) (h : ∀ j, j < k → numB (xs.getD j 0) = true) : nf 0 xs = nf k (xs.drop k) := by
  induction k with
  | zero => rfl
  | succ n ih =>
    rw [ih (by omega) (fun j hj => h j (by omega)), List.drop_eq_getElem_cons (by omega), nf]
    have := h n (by omega)
    rw [List.getD_eq_getElem?_getD, List.getElem?_eq_getElem (by omega), Option.getD_some] at this
    rw [if_pos this]
theorem nf_none (xs : List Int) (h : ∀ j, j < xs.length → numB (xs.getD j 0) = true) : nf 0 xs = (0, 0) := by
  rw [nf_skip xs xs.length (Nat.le_refl _) h, List.drop_length]; rfl
theorem nf_hit (xs : List Int) (k : Nat) (hk : k < xs.length) (h : ∀ j, j < k → numB (xs.getD j 0) = true) (hb : numB (xs.getD k 0) = false) : nf 0 xs = (3, (k : Int)) := by
  rw [nf_skip xs k (by omega) h, List.drop_eq_getElem_cons hk, nf]
  rw [List.getD_eq_getElem?_getD, List.getElem?_eq_getElem hk, Option.getD_some] at hb
  rw [if_neg (by simp [hb])]

theorem number_any (n : Int) (w : World) :
    Calls Tryz.prog 35 #[.int .i64 n] w fun e w' => e = .returned (.bool (numB n)) ∧ w' = w := by
  by_cases h1 : -1000000000000000000 ≤ n <;> by_cases h2 : n ≤ 1000000000000000000
  all_goals
    go_enter Tryz.func35, Tryz.ntmps35
    go_wp2
    go_ret
    exact ⟨ret_bool (by simp [numB, *] <;> omega), rfl⟩

theorem nf_nw : ∀ (xs : List Int) (i : Nat), nf i xs = nw 1000000000000000000 i xs
  | [], _ => rfl
  | x :: r, i => by rw [nf, nw, nf_nw r (i + 1)]; rfl

set_option maxHeartbeats 400000 in
theorem numbersFault_any (xs : List Int) (b o cap : Nat) (w : World) (hl : xs.length ≤ 1000000000) (hb : b < w.heap.size)
    (hc : ∀ j, j < xs.length → w.cell? ⟨b, o + j, none⟩ = some (.int .i64 (xs.getD j 0))) :
    Calls Tryz.prog 96 #[.slice (some ⟨b, o, none⟩) xs.length cap] w fun e w' => e = .returned (.agg #[.int .i64 (nf 0 xs).1, .int .i64 (nf 0 xs).2]) ∧ Below w.heap.size w w' := by
  obtain ⟨K, hK⟩ : ∃ K, K = nf 0 xs := ⟨_, rfl⟩
  have HB : Hid (∀ w', Below w.heap.size w w' → Calls Tryz.prog 123 #[.int .i64 1000000000000000000, .slice (some ⟨b, o, none⟩) xs.length cap] w' fun e w'' => e = .returned (.agg #[.int .i64 K.1, .int .i64 K.2]) ∧ Below w'.heap.size w' w'') := fun w' k => by
    rw [hK, nf_nw]
    exact bwithin_any 1000000000000000000 xs b o cap w' (by decide) (by decide) hl (Nat.lt_of_lt_of_le hb k.size) (fun j hj => (k.cell (p := ⟨b, o + j, none⟩) hb).trans (hc j hj))
  rw [← hK]
  clear hK hc hl hb
  go_enter Tryz.func96, Tryz.ntmps96
  go_wp2_with fail
  have K0 : Below w.heap.size w (w.alloc (.cells #[.int .i64 0, .int .i64 0] 25)) := Below.alloc (Below.refl _ _) (Nat.le_refl _) _
  refine (HB.out _ K0).mono ?_
  rintro e w1 ⟨rfl, k1⟩
  have hz : w.heap.size < w1.heap.size := by have := k1.size; simp at this; omega
  have q0 : w1.cell? ⟨w.heap.size, 0, none⟩ = some (.int .i64 0) := cell_later k1 (by simp)
  have q1 : w1.cell? ⟨w.heap.size, 1, none⟩ = some (.int .i64 0) := cell_later k1 (by simp)
  have q2 : w1.frozen? ⟨w.heap.size, 0, none⟩ = false := (k1.frozen (p := ⟨w.heap.size, 0, none⟩) (by simp)).trans (by simp)
  have q3 : w1.frozen? ⟨w.heap.size, 1, none⟩ = false := (k1.frozen (p := ⟨w.heap.size, 1, none⟩) (by simp)).trans (by simp)
  have HK : Hid (Below w.heap.size w w1) := K0.trans (k1.mono (by simp))
  clear K0 k1 HB
  go_wp2
  refine bodyPost_ret (v := .agg #[.int .i64 K.1, .int .i64 K.2]) (by simp [results, Tryz.results96, go_sem, q0, q1, hz]) rfl ⟨rfl, ?_⟩
  exact Below.setCell (Below.setCell HK.out (Nat.le_refl _) _) (Nat.le_refl _) _

theorem bcell {W w1 : World} (hb : Below W.heap.size W w1) : (∀ b o, b < W.heap.size → w1.cell? ⟨b, o, none⟩ = W.cell? ⟨b, o, none⟩) ∧ (∀ b o, b < W.heap.size → w1.frozen? ⟨b, o, none⟩ = W.frozen? ⟨b, o, none⟩) :=
  ⟨fun b o h => hb.cell (p := ⟨b, o, none⟩) h, fun b o h => hb.frozen (p := ⟨b, o, none⟩) h⟩

theorem below_drewN' {B n : Nat} {a w : World} (h : Below B a w) : Below B a (w.drewN n) := ⟨h.os, h.tape, h.output, h.size, h.block⟩

theorem two_cells (a b : Int) (W : World) (B : Nat) (h0 : W.cell? ⟨B, 0, none⟩ = some (.int .i64 a)) (h1 : W.cell? ⟨B, 1, none⟩ = some (.int .i64 b)) :
    ∀ j, j < [a, b].length → W.cell? ⟨B, 0 + j, none⟩ = some (.int .i64 ([a, b].getD j 0)) := by
  intro j hj
  match j, hj with
  | 0, _ => exact h0
  | 1, _ => exact h1

def okB (a b : Int) : Bool := numB a && numB b

set_option maxHeartbeats 400000 in
theorem Gcd_bad (a b : Int) (w : World) (h : okB a b = false) :
    Calls Tryz.prog 65 #[.int .i64 a, .int .i64 b] w fun e w' => e = .returned (.tuple #[.int .i64 0, .agg #[.int .i64 (nf 0 [a, b]).1, .int .i64 (nf 0 [a, b]).2]]) ∧ Below w.heap.size w w' := by
  have hne : ((nf 0 [a, b]).1 != 0) = true := by
    unfold okB at h; unfold nf nf nf; cases h1 : numB a <;> cases h2 : numB b <;> simp_all
  obtain ⟨c, d, hcd⟩ : ∃ c d, nf 0 [a, b] = (c, d) := ⟨_, _, rfl⟩
  rw [hcd] at hne ⊢
  have HCD : Hid (nf 0 [a, b] = (c, d)) := hcd
  clear hcd h
  simp only at hne ⊢
  go_enter Tryz.func65, Tryz.ntmps65
  go_wp2_with fail
  refine (numbersFault_any [a, b] _ 0 _ _ (by simp) ?_ ?_).mono ?_
  · simp
  · exact two_cells a b _ _ (by simp) (by simp)
  rw [HCD.out]
  rintro e w1 ⟨rfl, hb⟩
  have hz : w.heap.size < w1.heap.size := by have := hb.size; simp at this; omega
  have q0 : w1.cell? ⟨w.heap.size, 0, none⟩ = some (.int .i64 0) := cell_later hb (by simp)
  have q1 : w1.cell? ⟨w.heap.size, 1, none⟩ = some (.int .i64 0) := cell_later hb (by simp)
  have q2 : w1.frozen? ⟨w.heap.size, 0, none⟩ = false := (hb.frozen (p := ⟨w.heap.size, 0, none⟩) (by simp; omega)).trans (by simp)
  have q3 : w1.frozen? ⟨w.heap.size, 1, none⟩ = false := (hb.frozen (p := ⟨w.heap.size, 1, none⟩) (by simp; omega)).trans (by simp)
  go_wp2
  go_region
  all_goals
    go_wp2
    refine bodyPost_ret (v := .tuple #[.int .i64 0, .agg #[.int .i64 c, .int .i64 d]]) (by simp [results, Tryz.results65, go_sem, q0, q1, hz]) rfl ⟨rfl, ?_⟩
    refine Below.drew (Below.alloc (Below.setCell (Below.setCell (Below.trans (Below.alloc (Below.alloc (Below.refl _ _) ?_ _) ?_ _) (hb.mono ?_)) ?_ _) ?_ _) ?_ _) <;> first | omega | (simp; done) | (simp; omega)

theorem okB_bounds {a b : Int} (h : okB a b = true) : a.natAbs ≤ 1000000000000000000 ∧ b.natAbs ≤ 1000000000000000000 := by
  unfold okB at h; rw [Bool.and_eq_true] at h
  have h1 := numB_true h.1; have h2 := numB_true h.2; omega
theorem okB_nf {a b : Int} (h : okB a b = true) : nf 0 [a, b] = (0, 0) := by
  unfold okB at h; rw [Bool.and_eq_true] at h
  simp [nf, h.1, h.2]

set_option maxHeartbeats 400000 in
theorem Gcd_ok (a b : Int) (w : World) (h : okB a b = true) :
    Calls Tryz.prog 65 #[.int .i64 a, .int .i64 b] w fun e w' => e = .returned (.tuple #[.int .i64 (Int.gcd a b : Int), .agg #[.int .i64 0, .int .i64 0]]) ∧ Below w.heap.size w w' := by
  obtain ⟨ha, hb'⟩ := okB_bounds h
  have hcd := okB_nf h
  have HCD : Hid (nf 0 [a, b] = (0, 0)) := hcd
  clear hcd h
  go_enter Tryz.func65, Tryz.ntmps65
  go_wp2_with fail
  refine (numbersFault_any [a, b] _ 0 _ _ (by simp) ?_ ?_).mono ?_
  · simp
  · exact two_cells a b _ _ (by simp) (by simp)
  rw [HCD.out]
  rintro e w1 ⟨rfl, hb⟩
  have hz : w.heap.size < w1.heap.size := by have := hb.size; simp at this; omega
  have q0 : w1.cell? ⟨w.heap.size, 0, none⟩ = some (.int .i64 0) := cell_later hb (by simp)
  have q1 : w1.cell? ⟨w.heap.size, 1, none⟩ = some (.int .i64 0) := cell_later hb (by simp)
  have q2 : w1.frozen? ⟨w.heap.size, 0, none⟩ = false := (hb.frozen (p := ⟨w.heap.size, 0, none⟩) (by simp; omega)).trans (by simp)
  have q3 : w1.frozen? ⟨w.heap.size, 1, none⟩ = false := (hb.frozen (p := ⟨w.heap.size, 1, none⟩) (by simp; omega)).trans (by simp)
  go_wp2_with fail
  refine (gcd_any _ _ _ ha hb').mono ?_
  rintro e w2 ⟨rfl, n, rfl⟩
  go_wp2
  refine bodyPost_ret (v := .tuple #[.int .i64 (Int.gcd a b : Int), .agg #[.int .i64 0, .int .i64 0]]) (by simp [results, Tryz.results65, go_sem, q0, q1, hz]) rfl ⟨rfl, ?_⟩
  refine Below.setCell (Below.setCell (below_drewN' (Below.alloc (Below.trans (Below.alloc (Below.alloc (Below.refl _ _) ?_ _) ?_ _) (hb.mono ?_)) ?_ _)) ?_ _) ?_ _ <;> first | omega | (simp; done) | (simp; omega)
end Go.Proofs.YtcnfhndejkngkaaGreatDoor
end

section
/- Numbers of any length in memory: a slice of 32-bit words, a struct of a sign and such a slice. Definitions and what carries them from world to world. -/
set_option linter.unusedSimpArgs false
set_option linter.unusedVariables false
set_option maxRecDepth 100000
namespace Go.Proofs.YtcnfhndejkngkaaGreatDoor
open Go.RowKit

/-- The number that words (the least first) stand for. -/
def val : List Nat → Nat
  | [] => 0
  | x :: r => x + 4294967296 * val r
/-- The powers of 2^32. -/
def pw : Nat → Nat
  | 0 => 1
  | n + 1 => 4294967296 * pw n

theorem pw_pos (n : Nat) : 0 < pw n := by induction n with
  | zero => exact Nat.one_pos
  | succ n ih => unfold pw; omega
theorem pw_add (a b : Nat) : pw (a + b) = pw a * pw b := by induction a with
  | zero => simp [pw]
  | succ n ih =>
    rw [Nat.add_right_comm]
    show 4294967296 * pw (n + b) = 4294967296 * pw n * pw b
    rw [ih, Nat.mul_assoc]
theorem pw_le {a b : Nat} (h : a ≤ b) : pw a ≤ pw b := by
  obtain ⟨c, rfl⟩ := Nat.exists_eq_add_of_le h
  rw [pw_add]; exact Nat.le_mul_of_pos_right _ (pw_pos c)
theorem pw_lt_iff {a b : Nat} (h : pw a < pw b) : a < b := by
  rcases Nat.lt_or_ge a b with k | k
  · exact k
  · have := pw_le k; omega
theorem pw_two : pw 2 = 18446744073709551616 := by decide

theorem val_append (a b : List Nat) : val (a ++ b) = val a + pw a.length * val b := by induction a with
  | nil => simp [val, pw]
  | cons x r ih => simp only [List.cons_append, val, ih, List.length_cons, pw, Nat.mul_add, Nat.mul_assoc]; omega
theorem val_lt (l : List Nat) (h : ∀ x ∈ l, x < 4294967296) : val l < pw l.length := by induction l with
  | nil => simp [val, pw]
  | cons x r ih =>
    have h1 := h x (by simp)
    have h2 := ih (fun y hy => h y (by simp [hy]))
    simp only [val, List.length_cons, pw]; omega

/-- Without a nought at the end. -/
def Nm (l : List Nat) : Prop := l = [] ∨ pw (l.length - 1) ≤ val l
theorem Nm.len {l : List Nat} {m : Nat} (h : Nm l) (hv : val l < pw m) : l.length ≤ m := by
  rcases h with h | h
  · subst h; exact Nat.zero_le _
  · have := pw_lt_iff (Nat.lt_of_le_of_lt h hv); omega
theorem Nm.nil_iff {l : List Nat} (h : Nm l) : l = [] ↔ val l = 0 := by
  constructor
  · intro e; subst e; rfl
  · intro e; rcases h with h | h
    · exact h
    · have := pw_pos (l.length - 1); omega
theorem Nm.len_le {l m : List Nat} (h : Nm l) (hm : ∀ x ∈ m, x < 4294967296) (hv : val l ≤ val m) : l.length ≤ m.length :=
  h.len (Nat.lt_of_le_of_lt hv (val_lt m hm))

/-- The slice s holds the words l. -/
structure Sl (w : World) (s : Value) (l : List Nat) : Prop where
  small : ∀ x ∈ l, x < 4294967296
  shape : (l = [] ∧ s = .slice none 0 0) ∨ ∃ g cap C, s = .slice (some ⟨g, 0, none⟩) l.length cap ∧ l.length ≤ cap ∧ w.heap[g]? = some (.cells C 106 (0, 0)) ∧ ∀ i, i < l.length → C[i]? = some (.int .u32 (l.getD i 0 : Int))

/-- The slice s holds the number n, without noughts at the end. -/
def NS (w : World) (s : Value) (n : Nat) : Prop := ∃ l, Sl w s l ∧ val l = n ∧ Nm l

/-- Block b is a struct that holds the number n. -/
def BigAt (w : World) (b : Nat) (n : Int) : Prop := ∃ s, w.heap[b]? = some (.cells #[.bool (decide (n < 0)), s] 55 (0, 0)) ∧ NS w s n.natAbs

/-- Block b is such a struct, whatever it holds. -/
def Slot (w : World) (b : Nat) : Prop := ∃ x y, w.heap[b]? = some (.cells #[x, y] 55 (0, 0))

/-- w' is w with new blocks, and with writes to block b alone. -/
structure Upd (b : Nat) (w w' : World) : Prop where
  os : w'.os = w.os
  tape : w'.tape = w.tape
  output : w'.output = w.output
  size : w.heap.size ≤ w'.heap.size
  block : ∀ k, k < w.heap.size → k ≠ b → w'.heap[k]? = w.heap[k]?

theorem lt_of_some {w : World} {k : Nat} {o : Obj} (h : w.heap[k]? = some o) : k < w.heap.size := by
  rcases Nat.lt_or_ge k w.heap.size with h1 | h1
  · exact h1
  · rw [Array.getElem?_eq_none h1] at h; cases h

theorem BigAt.slot {w : World} {b : Nat} {n : Int} (h : BigAt w b n) : Slot w b := ⟨_, _, h.choose_spec.1⟩
theorem BigAt.lt {w : World} {b : Nat} {n : Int} (h : BigAt w b n) : b < w.heap.size := lt_of_some h.choose_spec.1
theorem Slot.lt {w : World} {b : Nat} (h : Slot w b) : b < w.heap.size := by obtain ⟨x, y, h⟩ := h; exact lt_of_some h

theorem Sl.below {B : Nat} {w w' : World} {s : Value} {l : List Nat} (h : Sl w s l) (hb : Below B w w') (hB : w.heap.size ≤ B) : Sl w' s l := by
  refine ⟨h.small, ?_⟩
  rcases h.shape with h1 | ⟨g, cap, C, h1, h2, h3, h4⟩
  · exact Or.inl h1
  · exact Or.inr ⟨g, cap, C, h1, h2, by rw [hb.block g (Nat.lt_of_lt_of_le (lt_of_some h3) hB)]; exact h3, h4⟩
theorem NS.below {B : Nat} {w w' : World} {s : Value} {n : Nat} (h : NS w s n) (hb : Below B w w') (hB : w.heap.size ≤ B) : NS w' s n := by
  obtain ⟨l, h1, h2⟩ := h; exact ⟨l, h1.below hb hB, h2⟩
theorem BigAt.below {B : Nat} {w w' : World} {b : Nat} {n : Int} (h : BigAt w b n) (hb : Below B w w') (hB : w.heap.size ≤ B) : BigAt w' b n := by
  obtain ⟨s, h1, h2⟩ := h
  exact ⟨s, by rw [hb.block b (Nat.lt_of_lt_of_le (lt_of_some h1) hB)]; exact h1, h2.below hb hB⟩
theorem Slot.below {B : Nat} {w w' : World} {b : Nat} (h : Slot w b) (hb : Below B w w') (hB : w.heap.size ≤ B) : Slot w' b := by
  obtain ⟨x, y, h1⟩ := h
  exact ⟨x, y, by rw [hb.block b (Nat.lt_of_lt_of_le (lt_of_some h1) hB)]; exact h1⟩

theorem Upd.of_below {b : Nat} {w w' : World} (h : Below w.heap.size w w') : Upd b w w' := ⟨h.os, h.tape, h.output, h.size, fun k hk _ => h.block k hk⟩
theorem Upd.below {b B : Nat} {w w' : World} (h : Upd b w w') (h1 : B ≤ w.heap.size) (h2 : B ≤ b) : Below B w w' :=
  ⟨h.os, h.tape, h.output, h.size, fun k hk => h.block k (by omega) (by omega)⟩
theorem Upd.trans {b : Nat} {x y z : World} (h : Upd b x y) (k : Upd b y z) : Upd b x z :=
  ⟨k.os.trans h.os, k.tape.trans h.tape, k.output.trans h.output, Nat.le_trans h.size k.size, fun i hi hn => (k.block i (Nat.lt_of_lt_of_le hi h.size) hn).trans (h.block i hi hn)⟩
theorem Upd.refl (b : Nat) (w : World) : Upd b w w := ⟨rfl, rfl, rfl, Nat.le_refl _, fun _ _ _ => rfl⟩
theorem Upd.drew {b : Nat} {x y : World} (h : Upd b x y) : Upd b x y.drew := ⟨h.os, h.tape, h.output, h.size, h.block⟩
theorem Upd.drewN {b n : Nat} {x y : World} (h : Upd b x y) : Upd b x (y.drewN n) := ⟨h.os, h.tape, h.output, h.size, h.block⟩
theorem Upd.setCell {b o : Nat} {x y : World} (h : Upd b x y) (u : Value) : Upd b x (y.setCell ⟨b, o, none⟩ u) :=
  h.trans ⟨rfl, rfl, rfl, by simp [World.setCell], fun k hk hn => Below.heap_setCell _ _ _ _ hn⟩
theorem Upd.alloc {b : Nat} {x y : World} (h : Upd b x y) (o : Obj) : Upd b x (y.alloc o) :=
  h.trans ⟨rfl, rfl, rfl, by simp, fun k hk _ => Below.heap_alloc _ _ _ hk⟩

/-- Words are no struct: a write to a struct turns no words. -/
theorem Sl.upd {b : Nat} {w w' : World} {s : Value} {l : List Nat} (h : Sl w s l) (hu : Upd b w w') (hs : Slot w b) : Sl w' s l := by
  refine ⟨h.small, ?_⟩
  rcases h.shape with h1 | ⟨g, cap, C, h1, h2, h3, h4⟩
  · exact Or.inl h1
  · refine Or.inr ⟨g, cap, C, h1, h2, ?_, h4⟩
    rw [hu.block g (lt_of_some h3) ?_]; exact h3
    intro e; subst e; obtain ⟨x, y, h5⟩ := hs; rw [h3] at h5; simp at h5
theorem NS.upd {b : Nat} {w w' : World} {s : Value} {n : Nat} (h : NS w s n) (hu : Upd b w w') (hs : Slot w b) : NS w' s n := by
  obtain ⟨l, h1, h2⟩ := h; exact ⟨l, h1.upd hu hs, h2⟩
theorem BigAt.upd {b c : Nat} {w w' : World} {n : Int} (h : BigAt w c n) (hu : Upd b w w') (hs : Slot w b) (hne : c ≠ b) : BigAt w' c n := by
  obtain ⟨s, h1, h2⟩ := h
  exact ⟨s, by rw [hu.block c (lt_of_some h1) hne]; exact h1, h2.upd hu hs⟩
theorem Slot.upd {b c : Nat} {w w' : World} (h : Slot w c) (hu : Upd b w w') (hne : c ≠ b) : Slot w' c := by
  obtain ⟨x, y, h1⟩ := h
  exact ⟨x, y, by rw [hu.block c (lt_of_some h1) hne]; exact h1⟩

/-- A cell of words, read. -/
theorem Sl.nonnil {w : World} {s : Value} {l : List Nat} (h : Sl w s l) (hl : l ≠ []) : ∃ g cap, s = .slice (some ⟨g, 0, none⟩) l.length cap ∧ l.length ≤ cap ∧ g < w.heap.size ∧ ∀ i, i < l.length → w.cell? ⟨g, i, none⟩ = some (.int .u32 (l.getD i 0 : Int)) := by
  rcases h.shape with h1 | ⟨g, cap, C, h1, h2, h3, h4⟩
  · exact absurd h1.1 hl
  · refine ⟨g, cap, h1, h2, lt_of_some h3, fun i hi => ?_⟩
    simp only [World.cell?, h3]; exact h4 i hi

theorem cell_new_at (x : World) (C : Array Value) (t : TypeId) (z i : Nat) (hz : x.heap.size = z) : (x.alloc (.cells C t)).cell? ⟨z, i, none⟩ = C[i]? := by
  have h : (x.alloc (.cells C t)).heap[z]? = some (.cells C t) := by subst hz; show (x.heap.push _)[x.heap.size]? = _; simp
  simp only [World.cell?, h]; rfl
theorem frozen_new_at (x : World) (C : Array Value) (t : TypeId) (z i : Nat) (hz : x.heap.size = z) : (x.alloc (.cells C t)).frozen? ⟨z, i, none⟩ = false := by
  have h : (x.alloc (.cells C t)).heap[z]? = some (.cells C t) := by subst hz; show (x.heap.push _)[x.heap.size]? = _; simp
  simp only [World.frozen?, h]; simp
theorem cell_old_at (x : World) (o : Obj) (p : Addr) (h : p.block < x.heap.size) : (x.alloc o).cell? p = x.cell? p := ((Below.refl x.heap.size x).alloc (Nat.le_refl _) o).cell h
theorem frozen_old_at (x : World) (o : Obj) (p : Addr) (h : p.block < x.heap.size) : (x.alloc o).frozen? p = x.frozen? p := ((Below.refl x.heap.size x).alloc (Nat.le_refl _) o).frozen h

end Go.Proofs.YtcnfhndejkngkaaGreatDoor
end
