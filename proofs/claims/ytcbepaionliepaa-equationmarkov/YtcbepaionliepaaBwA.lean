/- The program: bound.Between, bound.Within. -/
import Derived.Test.YtcbepaionliepaaJnA
set_option linter.unusedSimpArgs false
set_option linter.unusedVariables false
set_option maxRecDepth 100000
namespace Go.Proofs.Ytcbepaionliepaa
open Go.RowKit

def bwB (lo hi x : Int) : Bool := decide (lo ≤ x) && decide (x ≤ hi)
/-- The fault of the first that is not from lo to hi: its code and place. -/
def nb (lo hi : Int) : Nat → List Int → Int × Int
  | _, [] => (0, 0)
  | i, x :: r => if bwB lo hi x = true then nb lo hi (i + 1) r else (3, i)
theorem nb_skip (lo hi : Int) (xs : List Int) (k : Nat) (hk : k ≤ xs.length) (h : ∀ j, j < k → bwB lo hi (xs.getD j 0) = true) : nb lo hi 0 xs = nb lo hi k (xs.drop k) := by
  induction k with
  | zero => rfl
  | succ n ih =>
    rw [ih (by omega) (fun j hj => h j (by omega)), List.drop_eq_getElem_cons (by omega), nb]
    have := h n (by omega)
    rw [List.getD_eq_getElem?_getD, List.getElem?_eq_getElem (by omega), Option.getD_some] at this
    rw [if_pos this]
theorem nb_none (lo hi : Int) (xs : List Int) (h : ∀ j, j < xs.length → bwB lo hi (xs.getD j 0) = true) : nb lo hi 0 xs = (0, 0) := by
  rw [nb_skip lo hi xs xs.length (Nat.le_refl _) h, List.drop_length]; rfl
theorem nb_hit (lo hi : Int) (xs : List Int) (k : Nat) (hk : k < xs.length) (h : ∀ j, j < k → bwB lo hi (xs.getD j 0) = true) (hb : bwB lo hi (xs.getD k 0) = false) : nb lo hi 0 xs = (3, (k : Int)) := by
  rw [nb_skip lo hi xs k (by omega) h, List.drop_eq_getElem_cons hk, nb]
  rw [List.getD_eq_getElem?_getD, List.getElem?_eq_getElem hk, Option.getD_some] at hb
  rw [if_neg (by simp [hb])]

def inB (m x : Int) : Bool := decide (-m ≤ x) && decide (x ≤ m)
/-- The fault of the first that is above m in size: its code and place. -/
def nw (m : Int) : Nat → List Int → Int × Int
  | _, [] => (0, 0)
  | i, x :: r => if inB m x = true then nw m (i + 1) r else (3, i)
theorem nw_skip (m : Int) (xs : List Int) (k : Nat) (hk : k ≤ xs.length) (h : ∀ j, j < k → inB m (xs.getD j 0) = true) : nw m 0 xs = nw m k (xs.drop k) := by
  induction k with
  | zero => rfl
  | succ n ih =>
    rw [ih (by omega) (fun j hj => h j (by omega)), List.drop_eq_getElem_cons (by omega), nw]
    have := h n (by omega)
    rw [List.getD_eq_getElem?_getD, List.getElem?_eq_getElem (by omega), Option.getD_some] at this
    rw [if_pos this]
theorem nw_none (m : Int) (xs : List Int) (h : ∀ j, j < xs.length → inB m (xs.getD j 0) = true) : nw m 0 xs = (0, 0) := by
  rw [nw_skip m xs xs.length (Nat.le_refl _) h, List.drop_length]; rfl
theorem nw_hit (m : Int) (xs : List Int) (k : Nat) (hk : k < xs.length) (h : ∀ j, j < k → inB m (xs.getD j 0) = true) (hb : inB m (xs.getD k 0) = false) : nw m 0 xs = (3, (k : Int)) := by
  rw [nw_skip m xs k (by omega) h, List.drop_eq_getElem_cons hk, nw]
  rw [List.getD_eq_getElem?_getD, List.getElem?_eq_getElem hk, Option.getD_some] at hb
  rw [if_neg (by simp [hb])]

set_option maxHeartbeats 400000 in
theorem between_any (lo hi : Int) (xs : List Int) (b o cap : Nat) (w : World) (hl : xs.length ≤ 1000000000) (hb : b < w.heap.size)
    (hc : ∀ j, j < xs.length → w.cell? ⟨b, o + j, none⟩ = some (.int .i64 (xs.getD j 0))) :
    Calls Try.prog 34 #[.int .i64 lo, .int .i64 hi, .slice (some ⟨b, o, none⟩) xs.length cap] w fun e w' => e = .returned (.agg #[.int .i64 (nb lo hi 0 xs).1, .int .i64 (nb lo hi 0 xs).2]) ∧ Below w.heap.size w w' := by
  go_enter Try.func34, Try.ntmps34
  go_wp2
  go_loop [11] (fun i => ∃ k : Nat, k ≤ xs.length ∧ i = .int .i64 k ∧ ∀ j, j < k → bwB lo hi (xs.getD j 0) = true) (fun i => xs.length - (intOf i).toNat)
  case atStart => exact ⟨0, Nat.zero_le _, rfl, fun j hj => absurd hj (Nat.not_lt_zero _)⟩
  case round =>
    obtain ⟨k, hk, rfl, hok⟩ := hrel
    have HOK : Hid (∀ j, j < k → bwB lo hi (xs.getD j 0) = true) := hok
    have HC := hc
    clear hok hc
    by_cases hlt : k < xs.length
    · have hck := HC k hlt
      obtain ⟨x, hx⟩ : ∃ x, x = xs.getD k 0 := ⟨_, rfl⟩
      rw [← hx] at hck
      have HX : Hid (x = xs.getD k 0) := hx
      clear HC hx
      by_cases h1 : x < lo
      · have t1 : decide (x < lo) = true := decide_eq_true h1
        have hn : Hid (bwB lo hi x = false) := by show _ = _; simp [bwB]; omega
        clear h1
        go_wp2
        refine bodyPost_ret (v := .agg #[.int .i64 3, .int .i64 k]) (by simp [results, Try.results34, go_sem]) rfl ⟨?_, ?_⟩
        · rw [nb_hit lo hi xs k hlt HOK.out (by rw [← HX.out]; exact hn.out)]
        · exact Below.alloc (Below.refl _ _) (Nat.le_refl _) _
      · have t1 : decide (x < lo) = false := decide_eq_false h1
        by_cases h2 : hi < x
        · have t2 : decide (hi < x) = true := decide_eq_true h2
          have hn : Hid (bwB lo hi x = false) := by show _ = _; simp [bwB]; omega
          clear h1 h2
          go_wp2
          refine bodyPost_ret (v := .agg #[.int .i64 3, .int .i64 k]) (by simp [results, Try.results34, go_sem]) rfl ⟨?_, ?_⟩
          · rw [nb_hit lo hi xs k hlt HOK.out (by rw [← HX.out]; exact hn.out)]
          · exact Below.alloc (Below.refl _ _) (Nat.le_refl _) _
        · have t2 : decide (hi < x) = false := decide_eq_false h2
          have hn : Hid (bwB lo hi x = true) := by show _ = _; simp [bwB]; omega
          clear h1 h2
          go_wp2
          go_round
          case rel =>
            refine ⟨k + 1, by omega, by go_num, fun j hj => ?_⟩
            by_cases hjk : j = k
            · subst hjk; rw [← HX.out]; exact hn.out
            · exact HOK.out j (by omega)
          case measure => simp [intOf]; omega
    · go_wp2
      refine bodyPost_ret (v := .agg #[.int .i64 0, .int .i64 0]) (by simp [results, Try.results34, go_sem]) rfl ⟨?_, ?_⟩
      · rw [nb_none lo hi xs (fun j hj => HOK.out j (by omega))]
      · exact Below.alloc (Below.refl _ _) (Nat.le_refl _) _


theorem nw_nb (m : Int) : ∀ (xs : List Int) (i : Nat), nw m i xs = nb (-m) m i xs
  | [], _ => rfl
  | x :: r, i => by rw [nw, nb, nw_nb m r (i + 1)]; rfl

set_option maxHeartbeats 400000 in
theorem bwithin_any (m : Int) (xs : List Int) (b o cap : Nat) (w : World) (hm0 : 0 ≤ m) (hm1 : m ≤ 1000000000000000000) (hl : xs.length ≤ 1000000000) (hb : b < w.heap.size)
    (hc : ∀ j, j < xs.length → w.cell? ⟨b, o + j, none⟩ = some (.int .i64 (xs.getD j 0))) :
    Calls Try.prog 26 #[.int .i64 m, .slice (some ⟨b, o, none⟩) xs.length cap] w fun e w' => e = .returned (.agg #[.int .i64 (nw m 0 xs).1, .int .i64 (nw m 0 xs).2]) ∧ Below w.heap.size w w' := by
  obtain ⟨K, hK⟩ : ∃ K, K = nw m 0 xs := ⟨_, rfl⟩
  have HB : Hid (∀ w', Below w.heap.size w w' → Calls Try.prog 34 #[.int .i64 (-m), .int .i64 m, .slice (some ⟨b, o, none⟩) xs.length cap] w' fun e w'' => e = .returned (.agg #[.int .i64 K.1, .int .i64 K.2]) ∧ Below w'.heap.size w' w'') := fun w' k => by
    rw [hK, nw_nb]
    exact between_any (-m) m xs b o cap w' hl (Nat.lt_of_lt_of_le hb k.size) (fun j hj => (k.cell (p := ⟨b, o + j, none⟩) hb).trans (hc j hj))
  rw [← hK]
  clear hK hc hl hb
  go_enter Try.func26, Try.ntmps26
  go_wp2_with fail
  have K0 : Below w.heap.size w (w.alloc (.cells #[.int .i64 0, .int .i64 0] 23)) := Below.alloc (Below.refl _ _) (Nat.le_refl _) _
  refine (HB.out _ K0).mono ?_
  rintro e w1 ⟨rfl, k1⟩
  have hz : w.heap.size < w1.heap.size := by have := k1.size; simp at this; omega
  have q0 : w1.cell? ⟨w.heap.size, 0, none⟩ = some (.int .i64 0) := cell_later k1 (by simp)
  have q1 : w1.cell? ⟨w.heap.size, 1, none⟩ = some (.int .i64 0) := cell_later k1 (by simp)
  have q2 : w1.frozen? ⟨w.heap.size, 0, none⟩ = false := (k1.frozen (p := ⟨w.heap.size, 0, none⟩) (by simp)).trans (by simp)
  have q3 : w1.frozen? ⟨w.heap.size, 1, none⟩ = false := (k1.frozen (p := ⟨w.heap.size, 1, none⟩) (by simp)).trans (by simp)
  have HK : Hid (Below w.heap.size w w1) := K0.trans (k1.mono (by simp))
  clear K0 k1 HB
  go_wp2
  refine bodyPost_ret (v := .agg #[.int .i64 K.1, .int .i64 K.2]) (by simp [results, Try.results26, go_sem, q0, q1, hz]) rfl ⟨rfl, ?_⟩
  exact Below.setCell (Below.setCell HK.out (Nat.le_refl _) _) (Nat.le_refl _) _

end Go.Proofs.Ytcbepaionliepaa
