/- The program: equation.divisor, slices.Min, slices.Max. -/
import Derived.Test.YtcbepaionliepaaCoM
import Derived.Test.YtcbepaionliepaaWholeC
import Derived.Test.YtcbepaionliepaaRsK
import Derived.Deep.LoopGhost
set_option linter.unusedSimpArgs false
set_option linter.unusedVariables false
set_option maxRecDepth 100000
namespace Go.Proofs.Ytcbepaionliepaa
open Go.RowKit

/-- A row of numbers from 0 on, to read. -/
structure Ro (g o n : Nat) (L : Nat → Nat) (w : World) : Prop where
  c : ∀ j, j < n → w.cell? ⟨g, o + j, none⟩ = some (.int .i64 (L j : Int))
  lt : g < w.heap.size
theorem Ro.below {g o n B : Nat} {L : Nat → Nat} {w w' : World} (h : Ro g o n L w) (k : Below B w w') (hB : g < B) : Ro g o n L w' :=
  ⟨fun j hj => (k.cell (p := ⟨g, o + j, none⟩) hB).trans (h.c j hj), Nat.lt_of_lt_of_le h.lt k.size⟩
theorem Ro.belowA {g o n : Nat} {L : Nat → Nat} {w w' : World} (h : Ro g o n L w) (k : Below w.heap.size w w') : Ro g o n L w' := h.below k h.lt

theorem gl_fold (l : List Nat) (a : Nat) : l.foldl Nat.gcd a = Nat.gcd a (CO.gl l) := by
  induction l generalizing a with
  | nil => simp [CO.gl]
  | cons c l ih => rw [List.foldl_cons, ih, CO.gl, Nat.gcd_assoc]
def gt (l : List Nat) (i : Nat) : Nat := (l.take i).foldl Nat.gcd 0
theorem gt_all (l : List Nat) : gt l l.length = CO.gl l := by rw [gt, List.take_length, gl_fold, Nat.gcd_zero_left]
theorem gt_next (l : List Nat) (i : Nat) (h : i < l.length) : gt l (i + 1) = Nat.gcd (gt l i) (l.getD i 0) := by
  unfold gt
  rw [List.take_succ_eq_append_getElem h, List.foldl_append, List.foldl_cons, List.foldl_nil, List.getD_eq_getElem?_getD, List.getElem?_eq_getElem h, Option.getD_some]
theorem gt_le (l : List Nat) (i : Nat) (hi : i ≤ l.length) (M : Nat) (h : ∀ j, j < l.length → l.getD j 0 ≤ M) : gt l i ≤ M := by
  induction i with
  | zero => exact Nat.zero_le _
  | succ n ih =>
    rw [gt_next l n (by omega)]
    have a := ih (by omega)
    have b := h n (by omega)
    rcases Nat.eq_zero_or_pos (l.getD n 0) with h0 | h0
    · rw [h0, Nat.gcd_zero_right]; exact a
    · exact Nat.le_trans (Nat.gcd_le_right _ h0) b

set_option maxHeartbeats 2000000 in
theorem divisor_any (l : List Nat) (g o cap : Nat) (w : World) (hl : l.length ≤ 1000) (hM : ∀ j, j < l.length → l.getD j 0 ≤ 1000000) (h : Ro g o l.length (fun j => l.getD j 0) w) :
    Calls Try.prog 40 #[.slice (some ⟨g, o, none⟩) l.length cap] w fun e w' => e = .returned (.int .i64 (CO.gl l : Nat)) ∧ Below w.heap.size w w' := by
  have HR0 : Hid (Ro g o l.length (fun j => l.getD j 0) w) := h
  have HM : Hid (∀ i, i ≤ l.length → gt l i ≤ 1000000) := fun i hi => gt_le l i hi _ hM
  have HMj : Hid (∀ j, j < l.length → l.getD j 0 ≤ 1000000) := hM
  obtain ⟨n, hn⟩ : ∃ n, n = l.length := ⟨_, rfl⟩
  have HN : Hid (n = l.length) := hn
  rw [← hn] at hl HR0 HM HMj ⊢
  clear h hM hn
  go_enter Try.func40, Try.ntmps40
  go_wp2
  go_loopg [3, 8] n (fun gk gv iv wx => ∃ i : Nat, gv = .int .i64 (gt l i : Nat) ∧ iv = .int .i64 i ∧ Hid (gk = n - i ∧ i ≤ n ∧ Ro g o n (fun j => l.getD j 0) wx ∧ Below w.heap.size w wx))
  case atStart => exact ⟨0, rfl, rfl, by omega, by omega, HR0.out, Below.refl _ _⟩
  case round =>
    clear HR0
    obtain ⟨i, rfl, rfl, HR⟩ := hrel
    obtain ⟨h1, h2, h3, h4⟩ := HR.out
    by_cases hi : i < n
    · have ti : decide ((i : Int) < (n : Int)) = true := decide_eq_true (by omega)
      have c0 : wr.cell? ⟨g, o + i, none⟩ = some (.int .i64 ((l.getD i 0 : Nat) : Int)) := h3.c i hi
      have HS : Hid (gk = n - i ∧ Ro g o n (fun j => l.getD j 0) wr ∧ Below w.heap.size w wr) := ⟨h1, h3, h4⟩
      obtain ⟨x, hx⟩ : ∃ x : Nat, x = l.getD i 0 := ⟨_, rfl⟩
      obtain ⟨G, hG⟩ : ∃ G : Nat, G = gt l i := ⟨_, rfl⟩
      have bx : x ≤ 1000000 := by rw [hx]; exact HMj.out i hi
      have bG : G ≤ 1000000 := by rw [hG]; exact HM.out i (by omega)
      have HE : Hid (gt l (i + 1) = Nat.gcd G x) := by show _ = _; rw [gt_next l i (by have := HN.out; omega), hG, hx]
      have HC : Hid (∀ w, Calls Try.prog 54 #[.int .i64 (G : Int), .int .i64 (x : Int)] w fun e w' => e = .returned (.tuple #[.int .i64 ((gt l (i + 1) : Nat) : Int), .agg #[.int .i64 0, .int .i64 0]]) ∧ Below w.heap.size w w') := fun w => by
        have := Gcd_ok (G : Int) (x : Int) w (by simp only [okB, numB, Bool.and_eq_true, decide_eq_true_eq]; omega)
        rw [Int.gcd_natCast_natCast, ← HE.out] at this
        exact this
      rw [← hx] at c0
      rw [← hG]
      clear HR h1 h3 h4 hx hG HE
      go_wp2_with fail
      refine (HC.out _).mono ?_
      rintro e w1 ⟨rfl, k1⟩
      have HS1 : Hid (Ro g o n (fun j => l.getD j 0) w1 ∧ Below w.heap.size w w1) := ⟨HS.out.2.1.belowA k1, HS.out.2.2.trans (k1.mono HS.out.2.2.size)⟩
      clear k1 c0
      go_wp2
      go_roundg (n - (i + 1))
      case rel => exact ⟨i + 1, rfl, by go_num, rfl, by omega, HS1.out⟩
      case measure => have := HS.out.1; omega
    · have ti : decide ((i : Int) < (n : Int)) = false := decide_eq_false (by omega)
      have HE : Hid (gt l i = CO.gl l ∧ Below w.heap.size w wr) := by
        obtain rfl : i = n := by omega
        exact ⟨by rw [HN.out]; exact gt_all l, h4⟩
      clear HR h1 h3 h4
      go_wp2
      go_ret
      exact ⟨by rw [HE.out.1]; rfl, HE.out.2⟩

/-- The least and the greatest. -/
def mn (L : Nat → Nat) : Nat → Nat
  | 0 => L 0
  | n + 1 => min (mn L n) (L (n + 1))
def mx (L : Nat → Nat) : Nat → Nat
  | 0 => L 0
  | n + 1 => max (mx L n) (L (n + 1))
theorem mn_le (L : Nat → Nat) (n : Nat) : ∀ j, j ≤ n → mn L n ≤ L j := by
  induction n with
  | zero => intro j hj; obtain rfl : j = 0 := by omega
            exact Nat.le_refl _
  | succ n ih =>
    intro j hj
    rw [mn]
    by_cases e : j = n + 1
    · subst e; omega
    · have := ih j (by omega); omega
theorem mn_at (L : Nat → Nat) (n : Nat) : ∃ j, j ≤ n ∧ mn L n = L j := by
  induction n with
  | zero => exact ⟨0, Nat.le_refl _, rfl⟩
  | succ n ih =>
    obtain ⟨j, hj, e⟩ := ih
    rw [mn]
    rcases Nat.le_total (mn L n) (L (n + 1)) with h | h
    · exact ⟨j, by omega, by rw [Nat.min_eq_left h]; exact e⟩
    · exact ⟨n + 1, by omega, by rw [Nat.min_eq_right h]⟩
theorem mx_le (L : Nat → Nat) (n : Nat) : ∀ j, j ≤ n → L j ≤ mx L n := by
  induction n with
  | zero => intro j hj; obtain rfl : j = 0 := by omega
            exact Nat.le_refl _
  | succ n ih =>
    intro j hj
    rw [mx]
    by_cases e : j = n + 1
    · subst e; omega
    · have := ih j (by omega); omega
theorem mx_at (L : Nat → Nat) (n : Nat) : ∃ j, j ≤ n ∧ mx L n = L j := by
  induction n with
  | zero => exact ⟨0, Nat.le_refl _, rfl⟩
  | succ n ih =>
    obtain ⟨j, hj, e⟩ := ih
    rw [mx]
    rcases Nat.le_total (L (n + 1)) (mx L n) with h | h
    · exact ⟨j, by omega, by rw [Nat.max_eq_left h]; exact e⟩
    · exact ⟨n + 1, by omega, by rw [Nat.max_eq_right h]⟩

set_option maxHeartbeats 2000000 in
theorem Min_any (n g o cap : Nat) (L : Nat → Nat) (w : World) (h0 : 1 ≤ n) (hl : n ≤ 1000000) (h : Ro g o n L w) :
    Calls Try.prog 55 #[.slice (some ⟨g, o, none⟩) n cap] w fun e w' => e = .returned (.int .i64 (mn L (n - 1) : Nat)) ∧ w' = w := by
  have HR : Hid (∀ j, j < n → w.cell? ⟨g, o + j, none⟩ = some (.int .i64 (L j : Int))) := h.c
  have c0 := h.c 0 (by omega)
  have tl : decide ((n : Int) < 1) = false := decide_eq_false (by omega)
  rw [Nat.add_zero] at c0
  clear h
  go_enter Try.func55, Try.ntmps55
  go_wp2
  clear c0
  go_loopw [3, 4] (fun mv iv wx => ∃ i : Nat, mv = .int .i64 (mn L (i - 1) : Nat) ∧ iv = .int .i64 i ∧ 1 ≤ i ∧ i ≤ n ∧ Hid (wx = w)) (fun mv iv _ => n - (intOf iv).toNat)
  case atStart => exact ⟨1, rfl, rfl, by omega, by omega, rfl⟩
  case round =>
    obtain ⟨i, rfl, rfl, i1, i2, HW⟩ := hrel
    obtain rfl := HW.out
    clear HW
    by_cases hi : i < n
    · have ti : decide ((i : Int) < (n : Int)) = true := decide_eq_true (by omega)
      have c0 := HR.out i hi
      have HE : Hid (min (mn L (i - 1)) (L i) = mn L (i + 1 - 1)) := by
        obtain ⟨k, rfl⟩ : ∃ k, i = k + 1 := ⟨i - 1, by omega⟩
        rfl
      obtain ⟨A, hA⟩ : ∃ A : Nat, A = mn L (i - 1) := ⟨_, rfl⟩
      obtain ⟨X, hX⟩ : ∃ A : Nat, A = L i := ⟨_, rfl⟩
      rw [← hX] at c0 HE
      rw [← hA] at HE ⊢
      clear hA hX
      go_wp2
      go_roundw
      case rel => exact ⟨i + 1, by rw [← HE.out]; congr 1; split <;> omega, by go_num, by omega, by omega, by first | rfl | trivial⟩
      case measure => simp [intOf]; omega
    · have ti : decide ((i : Int) < (n : Int)) = false := decide_eq_false (by omega)
      obtain rfl : i = n := by omega
      go_wp2
      go_ret
      exact ⟨rfl, rfl⟩

set_option maxHeartbeats 2000000 in
theorem Max_any (n g o cap : Nat) (L : Nat → Nat) (w : World) (h0 : 1 ≤ n) (hl : n ≤ 1000000) (h : Ro g o n L w) :
    Calls Try.prog 57 #[.slice (some ⟨g, o, none⟩) n cap] w fun e w' => e = .returned (.int .i64 (mx L (n - 1) : Nat)) ∧ w' = w := by
  have HR : Hid (∀ j, j < n → w.cell? ⟨g, o + j, none⟩ = some (.int .i64 (L j : Int))) := h.c
  have c0 := h.c 0 (by omega)
  have tl : decide ((n : Int) < 1) = false := decide_eq_false (by omega)
  rw [Nat.add_zero] at c0
  clear h
  go_enter Try.func57, Try.ntmps57
  go_wp2
  clear c0
  go_loopw [3, 4] (fun mv iv wx => ∃ i : Nat, mv = .int .i64 (mx L (i - 1) : Nat) ∧ iv = .int .i64 i ∧ 1 ≤ i ∧ i ≤ n ∧ Hid (wx = w)) (fun mv iv _ => n - (intOf iv).toNat)
  case atStart => exact ⟨1, rfl, rfl, by omega, by omega, rfl⟩
  case round =>
    obtain ⟨i, rfl, rfl, i1, i2, HW⟩ := hrel
    obtain rfl := HW.out
    clear HW
    by_cases hi : i < n
    · have ti : decide ((i : Int) < (n : Int)) = true := decide_eq_true (by omega)
      have c0 := HR.out i hi
      have HE : Hid (max (mx L (i - 1)) (L i) = mx L (i + 1 - 1)) := by
        obtain ⟨k, rfl⟩ : ∃ k, i = k + 1 := ⟨i - 1, by omega⟩
        rfl
      obtain ⟨A, hA⟩ : ∃ A : Nat, A = mx L (i - 1) := ⟨_, rfl⟩
      obtain ⟨X, hX⟩ : ∃ A : Nat, A = L i := ⟨_, rfl⟩
      rw [← hX] at c0 HE
      rw [← hA] at HE ⊢
      clear hA hX
      go_wp2
      go_roundw
      case rel => exact ⟨i + 1, by rw [← HE.out]; congr 1; split <;> omega, by go_num, by omega, by omega, by first | rfl | trivial⟩
      case measure => simp [intOf]; omega
    · have ti : decide ((i : Int) < (n : Int)) = false := decide_eq_false (by omega)
      obtain rfl : i = n := by omega
      go_wp2
      go_ret
      exact ⟨rfl, rfl⟩

end Go.Proofs.Ytcbepaionliepaa
