/- The program: equation.Coins. -/
import Derived.Test.YtcbepaionliepaaCoC
set_option linter.unusedSimpArgs false
set_option linter.unusedVariables false
set_option maxRecDepth 100000
namespace Go.Proofs.Ytcbepaionliepaa
open Go.RowKit

abbrev CoV (a n c t : Int) : Value := .tuple #[.int .i64 a, .int .i64 n, .agg #[.int .i64 c, .int .i64 t]]

set_option maxHeartbeats 2000000 in
theorem Coins_many (a : Option Addr) (n cap : Nat) (w : World) (h : n < 1 ∨ 20 < n) :
    Calls Try.prog 23 #[.slice a n cap] w fun e w' => e = .returned (CoV 0 0 2 0) ∧ Below w.heap.size w w' := by
  rcases h with h | h
  · have t1 : decide ((n : Int) < 1) = true := decide_eq_true (by omega)
    go_enter Try.func23, Try.ntmps23
    go_wp2
    refine bodyPost_ret (v := CoV 0 0 2 0) (by simp [results, Try.results23, go_sem]) rfl ⟨rfl, ?_⟩
    exact Below.alloc (Below.refl _ _) (Nat.le_refl _) _
  · have t1 : decide ((n : Int) < 1) = false := decide_eq_false (by omega)
    have t2 : decide (20 < (n : Int)) = true := decide_eq_true (by omega)
    go_enter Try.func23, Try.ntmps23
    go_wp2
    refine bodyPost_ret (v := CoV 0 0 2 0) (by simp [results, Try.results23, go_sem]) rfl ⟨rfl, ?_⟩
    exact Below.alloc (Below.refl _ _) (Nat.le_refl _) _

set_option maxHeartbeats 2000000 in
theorem Coins_range (xs : List Int) (b o cap : Nat) (c d : Int) (w : World) (h0 : 1 ≤ xs.length) (hl : xs.length ≤ 20) (hb : b < w.heap.size) (hc : ∀ j, j < xs.length → w.cell? ⟨b, o + j, none⟩ = some (.int .i64 (xs.getD j 0))) (hK : nb 1 1000 0 xs = (c, d)) (hne : (c != 0) = true) :
    Calls Try.prog 23 #[.slice (some ⟨b, o, none⟩) xs.length cap] w fun e w' => e = .returned (CoV 0 0 c d) ∧ Below w.heap.size w w' := by
  have HB : Hid (∀ w', Below w.heap.size w w' → Calls Try.prog 34 #[.int .i64 1, .int .i64 1000, .slice (some ⟨b, o, none⟩) xs.length cap] w' fun e w'' => e = .returned (.agg #[.int .i64 c, .int .i64 d]) ∧ Below w'.heap.size w' w'') := fun w' k => by
    have := between_any 1 1000 xs b o cap w' (by omega) (Nat.lt_of_lt_of_le hb k.size) (fun j hj => (k.cell (p := ⟨b, o + j, none⟩) hb).trans (hc j hj))
    rw [hK] at this
    exact this
  obtain ⟨n, hn⟩ : ∃ n, n = xs.length := ⟨_, rfl⟩
  rw [← hn] at HB h0 hl ⊢
  have t1 : decide ((n : Int) < 1) = false := decide_eq_false (by omega)
  have t2 : decide (20 < (n : Int)) = false := decide_eq_false (by omega)
  clear hn hc hK hb
  go_enter Try.func23, Try.ntmps23
  go_wp2_with fail
  refine (HB.out _ (Below.alloc (Below.refl _ _) (Nat.le_refl _) _)).mono ?_
  rintro e w1 ⟨rfl, hb⟩
  have hz : w.heap.size < w1.heap.size := by have := hb.size; simp at this; omega
  have q0 : w1.cell? ⟨w.heap.size, 0, none⟩ = some (.int .i64 0) := cell_later hb (by simp)
  have q1 : w1.cell? ⟨w.heap.size, 1, none⟩ = some (.int .i64 0) := cell_later hb (by simp)
  have q2 : w1.frozen? ⟨w.heap.size, 0, none⟩ = false := (hb.frozen (p := ⟨w.heap.size, 0, none⟩) (by simp)).trans (by simp)
  have q3 : w1.frozen? ⟨w.heap.size, 1, none⟩ = false := (hb.frozen (p := ⟨w.heap.size, 1, none⟩) (by simp)).trans (by simp)
  clear HB
  go_wp2
  go_region
  all_goals
    go_wp2
    refine bodyPost_ret (v := CoV 0 0 c d) (by simp [results, Try.results23, go_sem, q0, q1, hz]) rfl ⟨rfl, ?_⟩
    refine Below.drew (Below.alloc (Below.setCell (Below.setCell (Below.trans (Below.alloc (Below.refl _ _) ?_ _) (hb.mono ?_)) ?_ _) ?_ _) ?_ _) <;> first | omega | (simp; done) | (simp; omega)

theorem nat_cells {l : List Nat} {g o : Nat} {w : World} (h : Ro g o l.length (fun j => l.getD j 0) w) : ∀ j, j < (l.map fun x : Nat => (x : Int)).length → w.cell? ⟨g, o + j, none⟩ = some (.int .i64 ((l.map fun x : Nat => (x : Int)).getD j 0)) := fun j hj => by
  rw [List.length_map] at hj
  rw [h.c j hj]
  simp [List.getD_eq_getElem?_getD, List.getElem?_eq_getElem hj]
theorem nat_nb {l : List Nat} (hM : ∀ j, j < l.length → 1 ≤ l.getD j 0 ∧ l.getD j 0 ≤ 1000) : nb 1 1000 0 (l.map fun x : Nat => (x : Int)) = (0, 0) := nb_none _ _ _ (fun j hj => by
  rw [List.length_map] at hj
  have := hM j hj
  rw [List.getD_eq_getElem?_getD, List.getElem?_eq_getElem hj, Option.getD_some] at this
  simp [bwB, List.getD_eq_getElem?_getD, List.getElem?_eq_getElem hj]
  omega)

set_option maxHeartbeats 2000000 in
theorem Coins_none (l : List Nat) (g o cap : Nat) (w : World) (h0 : 1 ≤ l.length) (hl : l.length ≤ 20) (hM : ∀ j, j < l.length → 1 ≤ l.getD j 0 ∧ l.getD j 0 ≤ 1000) (hg : 1 < CO.gl l) (hgb : CO.gl l ≤ 1000) (h : Ro g o l.length (fun j => l.getD j 0) w) :
    Calls Try.prog 23 #[.slice (some ⟨g, o, none⟩) l.length cap] w fun e w' => e = .returned (CoV 0 0 5 0) ∧ Below w.heap.size w w' := by
  have HB : Hid (∀ w', Below w.heap.size w w' → Calls Try.prog 34 #[.int .i64 1, .int .i64 1000, .slice (some ⟨g, o, none⟩) l.length cap] w' fun e w'' => e = .returned (.agg #[.int .i64 0, .int .i64 0]) ∧ Below w'.heap.size w' w'') := fun w' k => by
    have := between_any 1 1000 (l.map fun x : Nat => (x : Int)) g o cap w' (by simp; omega) (Nat.lt_of_lt_of_le h.lt k.size) (nat_cells (h.below k h.lt))
    rw [nat_nb hM, List.length_map] at this
    exact this
  have HD : Hid (∀ w', Below w.heap.size w w' → Calls Try.prog 40 #[.slice (some ⟨g, o, none⟩) l.length cap] w' fun e w'' => e = .returned (.int .i64 (CO.gl l : Nat)) ∧ Below w'.heap.size w' w'') := fun w' k => divisor_any l g o cap w' (by omega) (fun j hj => by have := hM j hj; omega) (h.below k h.lt)
  obtain ⟨G, hG⟩ : ∃ G, G = CO.gl l := ⟨_, rfl⟩
  rw [← hG] at HD hg hgb
  obtain ⟨n, hn⟩ : ∃ n, n = l.length := ⟨_, rfl⟩
  rw [← hn] at HB HD h0 hl ⊢
  have t1 : decide ((n : Int) < 1) = false := decide_eq_false (by omega)
  have t2 : decide (20 < (n : Int)) = false := decide_eq_false (by omega)
  have t3 : decide (1 < (G : Int)) = true := decide_eq_true (by omega)
  clear hn h hM hG
  go_enter Try.func23, Try.ntmps23
  go_wp2_with fail
  have K0 : Below w.heap.size w (w.alloc (.cells #[.int .i64 0, .int .i64 0] 23)) := Below.alloc (Below.refl _ _) (Nat.le_refl _) _
  refine (HB.out _ K0).mono ?_
  rintro e w1 ⟨rfl, k1⟩
  have K1 : Below w.heap.size w w1 := K0.trans (k1.mono (by simp))
  have S1 : Sv w.heap.size 0 0 w1 := (Sv.new 0 0 w).below k1
  have HS1 : Hid (Sv w.heap.size 0 0 w1 ∧ Below w.heap.size w w1) := ⟨S1, K1⟩
  clear S1 K0 K1 k1 HB
  go_wp2_with fail
  refine (HD.out _ (Below.alloc HS1.out.2 HS1.out.2.size _)).mono ?_
  rintro e w2 ⟨rfl, k2⟩
  have S2 : Sv w.heap.size 0 0 w2 := (HS1.out.1.alloc _ _).below k2
  have HK2 : Hid (Below w.heap.size w w2) := (Below.alloc HS1.out.2 HS1.out.2.size _).trans (k2.mono (by simp; have := HS1.out.2.size; omega))
  obtain ⟨q0, q1, q2, q3, hz⟩ := S2
  clear k2 HD
  go_wp2
  refine bodyPost_ret (v := CoV 0 0 5 0) (by simp [results, Try.results23, go_sem, q0, q1, hz]) rfl ⟨rfl, ?_⟩
  exact Below.setCell (Below.setCell HK2.out (Nat.le_refl _) _) (Nat.le_refl _) _

set_option maxHeartbeats 2000000 in
theorem Coins_ok (l : List Nat) (g o cap : Nat) (w : World) (h0 : 1 ≤ l.length) (hl : l.length ≤ 20) (hM : ∀ j, j < l.length → 1 ≤ l.getD j 0 ∧ l.getD j 0 ≤ 1000) (hg : CO.gl l = 1) (h : Ro g o l.length (fun j => l.getD j 0) w) :
    Calls Try.prog 23 #[.slice (some ⟨g, o, none⟩) l.length cap] w fun e w' => ∃ (m : Nat) (L : Nat → Nat), m = mn (fun j => l.getD j 0) (l.length - 1) ∧ CO.G m l l.length L ∧ e = .returned (CoV ((mx L (m - 1) : Nat) - (m : Int)) (CO.su (fun r => L r / m) m : Nat) 0 0) ∧ Below w.heap.size w w' := by
  have HB : Hid (∀ w', Below w.heap.size w w' → Calls Try.prog 34 #[.int .i64 1, .int .i64 1000, .slice (some ⟨g, o, none⟩) l.length cap] w' fun e w'' => e = .returned (.agg #[.int .i64 0, .int .i64 0]) ∧ Below w'.heap.size w' w'') := fun w' k => by
    have := between_any 1 1000 (l.map fun x : Nat => (x : Int)) g o cap w' (by simp; omega) (Nat.lt_of_lt_of_le h.lt k.size) (nat_cells (h.below k h.lt))
    rw [nat_nb hM, List.length_map] at this
    exact this
  have HD : Hid (∀ w', Below w.heap.size w w' → Calls Try.prog 40 #[.slice (some ⟨g, o, none⟩) l.length cap] w' fun e w'' => e = .returned (.int .i64 1) ∧ Below w'.heap.size w' w'') := fun w' k => by
    have := divisor_any l g o cap w' (by omega) (fun j hj => by have := hM j hj; omega) (h.below k h.lt)
    rw [hg] at this
    exact this
  have HC : Hid (∀ w', Below w.heap.size w w' → Calls Try.prog 41 #[.slice (some ⟨g, o, none⟩) l.length cap] w' fun e w'' => ∃ (m : Nat) (L : Nat → Nat), m = mn (fun j => l.getD j 0) (l.length - 1) ∧ CO.G m l l.length L ∧ e = .returned (.tuple #[.int .i64 ((mx L (m - 1) : Nat) - (m : Int)), .int .i64 (CO.su (fun r => L r / m) m : Nat)]) ∧ Below w'.heap.size w' w'') := fun w' k => coins_any l g o cap w' h0 (by omega) hM hg (h.below k h.lt)
  obtain ⟨n, hn⟩ : ∃ n, n = l.length := ⟨_, rfl⟩
  have HN : Hid (n = l.length) := hn
  rw [← hn] at HB HD HC h0 hl ⊢
  have t1 : decide ((n : Int) < 1) = false := decide_eq_false (by omega)
  have t2 : decide (20 < (n : Int)) = false := decide_eq_false (by omega)
  clear hn h hM hg
  go_enter Try.func23, Try.ntmps23
  go_wp2_with fail
  have K0 : Below w.heap.size w (w.alloc (.cells #[.int .i64 0, .int .i64 0] 23)) := Below.alloc (Below.refl _ _) (Nat.le_refl _) _
  refine (HB.out _ K0).mono ?_
  rintro e w1 ⟨rfl, k1⟩
  have HS1 : Hid (Sv w.heap.size 0 0 w1 ∧ Below w.heap.size w w1) := ⟨(Sv.new 0 0 w).below k1, K0.trans (k1.mono (by simp))⟩
  clear K0 k1 HB
  go_wp2_with fail
  refine (HD.out _ (Below.alloc HS1.out.2 HS1.out.2.size _)).mono ?_
  rintro e w2 ⟨rfl, k2⟩
  have HS2 : Hid (Sv w.heap.size 0 0 w2 ∧ Below w.heap.size w w2) := ⟨(HS1.out.1.alloc _ _).below k2, (Below.alloc HS1.out.2 HS1.out.2.size _).trans (k2.mono (by simp; have := HS1.out.2.size; omega))⟩
  clear k2 HD
  go_wp2_with fail
  refine (HC.out _ HS2.out.2).mono ?_
  rintro e w3 ⟨m, L, e1, hG, rfl, k3⟩
  have HS3 : Hid (m = mn (fun j => l.getD j 0) (n - 1) ∧ CO.G m l n L ∧ Below w.heap.size w w3) := ⟨e1, hG, HS2.out.2.trans (k3.mono HS2.out.2.size)⟩
  obtain ⟨q0, q1, q2, q3, hz⟩ := HS2.out.1.below k3
  obtain ⟨X, hX⟩ : ∃ X : Int, X = (mx L (m - 1) : Nat) - (m : Int) := ⟨_, rfl⟩
  obtain ⟨Y, hY⟩ : ∃ X : Int, X = (CO.su (fun r => L r / m) m : Nat) := ⟨_, rfl⟩
  have HXY : Hid (X = (mx L (m - 1) : Nat) - (m : Int) ∧ Y = (CO.su (fun r => L r / m) m : Nat)) := ⟨hX, hY⟩
  rw [← hX, ← hY]
  clear k3 HC e1 hG hX hY
  go_wp2
  refine bodyPost_ret (v := CoV X Y 0 0) (by simp [results, Try.results23, go_sem, q0, q1, hz]) rfl ⟨m, L, HS3.out.1, HS3.out.2.1, by rw [HXY.out.1, HXY.out.2], ?_⟩
  exact Below.setCell (Below.setCell HS3.out.2.2 (Nat.le_refl _) _) (Nat.le_refl _) _

end Go.Proofs.Ytcbepaionliepaa
