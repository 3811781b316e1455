 /- The program: bound.Smalls, quad.discriminant, commonDivisor, isReduced, Check. -/
import Derived.Test.YtijkanilpblogaeFormReducesWalk
import Derived.Test.YtijkanilpblogaeWholeE
set_option linter.unusedSimpArgs false
set_option linter.unusedVariables false
set_option maxRecDepth 100000
namespace Go.Proofs.Ytijkanilpblogae
open Go.RowKit

/-- The fault of the first that is not small: its code and place. -/
def sf : Nat → List Int → Int × Int
  | _, [] => (0, 0)
  | i, x :: r => if okc x = true then sf (i + 1) r else (3, i)
theorem sf_skip (xs : List Int) (k : Nat) (hk : k ≤ xs.length) (h : ∀ j, j < k → okc (xs.getD j 0) = true) : sf 0 xs = sf k (xs.drop k) := by
  induction k with
  | zero => rfl
  | succ n ih =>
    rw [ih (by omega) (fun j hj => h j (by omega)), List.drop_eq_getElem_cons (by omega), sf]
    have := h n (by omega)
    rw [List.getD_eq_getElem?_getD, List.getElem?_eq_getElem (by omega), Option.getD_some] at this
    rw [if_pos this]
theorem sf_none (xs : List Int) (h : ∀ j, j < xs.length → okc (xs.getD j 0) = true) : sf 0 xs = (0, 0) := by
  rw [sf_skip xs xs.length (Nat.le_refl _) h, List.drop_length]; rfl
theorem sf_hit (xs : List Int) (k : Nat) (hk : k < xs.length) (h : ∀ j, j < k → okc (xs.getD j 0) = true) (hb : okc (xs.getD k 0) = false) : sf 0 xs = (3, (k : Int)) := by
  rw [sf_skip xs k (by omega) h, List.drop_eq_getElem_cons hk, sf]
  rw [List.getD_eq_getElem?_getD, List.getElem?_eq_getElem hk, Option.getD_some] at hb
  rw [if_neg (by simp [hb])]

set_option maxHeartbeats 1000000 in
theorem Smalls_any (xs : List Int) (b o cap : Nat) (w : World) (hl : xs.length ≤ 1000000000) (hb : b < w.heap.size)
    (hc : ∀ j, j < xs.length → w.cell? ⟨b, o + j, none⟩ = some (.int .i64 (xs.getD j 0))) :
    Calls Try.prog 47 #[.slice (some ⟨b, o, none⟩) xs.length cap] w fun e w' => e = .returned (.agg #[.int .i64 (sf 0 xs).1, .int .i64 (sf 0 xs).2]) ∧ Below w.heap.size w w' := by
  go_enter Try.func47, Try.ntmps47
  go_wp2
  go_loop [7] (fun i => ∃ k : Nat, k ≤ xs.length ∧ i = .int .i64 k ∧ ∀ j, j < k → okc (xs.getD j 0) = true) (fun i => xs.length - (intOf i).toNat)
  case atStart => exact ⟨0, Nat.zero_le _, rfl, fun j hj => absurd hj (Nat.not_lt_zero _)⟩
  case round =>
    obtain ⟨k, hk, rfl, hok⟩ := hrel
    have HOK : Hid (∀ j, j < k → okc (xs.getD j 0) = true) := hok
    have HC := hc
    clear hok hc
    by_cases hlt : k < xs.length
    · have hck := HC k hlt
      obtain ⟨x, hx⟩ : ∃ x, x = xs.getD k 0 := ⟨_, rfl⟩
      rw [← hx] at hck
      have HX : Hid (x = xs.getD k 0) := hx
      clear HC hx
      have h3 : x < -1000000 ∨ (-1000000 ≤ x ∧ 1000000 < x) ∨ (-1000000 ≤ x ∧ x ≤ 1000000) := by omega
      rcases h3 with h3 | h3 | h3
      · have t1 : decide (x < -1000000) = true := decide_eq_true h3
        have HN : Hid (okc x = false) := by show _ = _; unfold okc; simp; omega
        clear h3
        go_wp2
        refine bodyPost_ret (v := .agg #[.int .i64 3, .int .i64 k]) (by simp [results, Try.results47, go_sem]) rfl ⟨?_, ?_⟩
        · rw [sf_hit xs k hlt HOK.out (by rw [← HX.out]; exact HN.out)]
        · exact Below.alloc (Below.refl _ _) (Nat.le_refl _) _
      · have t1 : decide (x < -1000000) = false := decide_eq_false (by omega)
        have t2 : decide (1000000 < x) = true := decide_eq_true h3.2
        have HN : Hid (okc x = false) := by show _ = _; unfold okc; simp; omega
        clear h3
        go_wp2
        refine bodyPost_ret (v := .agg #[.int .i64 3, .int .i64 k]) (by simp [results, Try.results47, go_sem]) rfl ⟨?_, ?_⟩
        · rw [sf_hit xs k hlt HOK.out (by rw [← HX.out]; exact HN.out)]
        · exact Below.alloc (Below.refl _ _) (Nat.le_refl _) _
      · have t1 : decide (x < -1000000) = false := decide_eq_false (by omega)
        have t2 : decide (1000000 < x) = false := decide_eq_false (by omega)
        have HN : Hid (okc x = true) := by show _ = _; unfold okc; simp; omega
        clear h3
        go_wp2
        go_round
        case rel =>
          refine ⟨k + 1, by omega, by go_num, fun j hj => ?_⟩
          by_cases hjk : j = k
          · subst hjk; rw [← HX.out]; exact HN.out
          · exact HOK.out j (by omega)
        case measure => simp [intOf]; omega
    · go_wp2
      refine bodyPost_ret (v := .agg #[.int .i64 0, .int .i64 0]) (by simp [results, Try.results47, go_sem]) rfl ⟨?_, ?_⟩
      · rw [sf_none xs (fun j hj => HOK.out j (by omega))]
      · exact Below.alloc (Below.refl _ _) (Nat.le_refl _) _

set_option maxHeartbeats 1000000 in
theorem discriminant_any (f : Qf) (w : World) (h : f.upto 1000000) : Calls Try.prog 32 #[f.v] w fun e w' => e = .returned (.int .i64 f.disc) ∧ Below w.heap.size w w' := by
  obtain ⟨a, b, c⟩ := f
  obtain ⟨h1, h2, h3, h4, h5, h6⟩ := h
  simp only [] at h1 h2 h3 h4 h5 h6
  have e1 := sq_bd h3 h4 h3 h4
  have e2 := sq_bd h1 h2 h5 h6
  have e3 : 4 * a * c = 4 * (a * c) := Int.mul_assoc ..
  obtain ⟨p, hp⟩ : ∃ p, b * b = p := ⟨_, rfl⟩
  obtain ⟨q, hq⟩ : ∃ q, 4 * a * c = q := ⟨_, rfl⟩
  have HD : Hid (Qf.disc ⟨a, b, c⟩ = p - q) := by show _ = _; unfold Qf.disc; rw [hp, hq]
  rw [HD.out]
  rw [hp] at e1
  have e4 : -4000000000000 ≤ q ∧ q ≤ 4000000000000 := by rw [← hq, e3]; omega
  clear e2 e3 HD
  unfold Qf.v
  go_enter Try.func32, Try.ntmps32
  go_wp2
  go_ret
  exact ⟨rfl, Below.alloc (Below.refl _ _) (Nat.le_refl _) _⟩

theorem okB_of {a b : Int} (ha : a.natAbs ≤ 1000000000000000000) (hb : b.natAbs ≤ 1000000000000000000) : okB a b = true := by
  unfold okB numB; simp; omega
theorem gcd_up {a b : Int} (ha : a.natAbs ≤ 1000000000000) (hb : b.natAbs ≤ 1000000000000) : Int.gcd a b ≤ 1000000000000 := by
  unfold Int.gcd
  by_cases h : b.natAbs = 0
  · rw [h, Nat.gcd_zero_right]; exact ha
  · exact Nat.le_trans (Nat.gcd_le_right _ (by omega)) hb

set_option maxHeartbeats 1000000 in
theorem commonDivisor_any (f : Qf) (w : World) (h : f.upto 1000000) : Calls Try.prog 46 #[f.v] w fun e w' => e = .returned (.int .i64 (Int.gcd (Int.gcd f.a f.b) f.c : Int)) ∧ Below w.heap.size w w' := by
  obtain ⟨h1, h2, h3, h4, h5, h6⟩ := h
  have HG1 : Hid (∀ w, Calls Try.prog 64 #[.int .i64 f.a, .int .i64 f.b] w fun e w' => e = .returned (.tuple #[.int .i64 (Int.gcd f.a f.b : Int), .agg #[.int .i64 0, .int .i64 0]]) ∧ Below w.heap.size w w') := fun w => Gcd_ok _ _ w (okB_of (by omega) (by omega))
  have hg := gcd_up (a := f.a) (b := f.b) (by omega) (by omega)
  obtain ⟨G, hG⟩ : ∃ G : Int, (Int.gcd f.a f.b : Int) = G := ⟨_, rfl⟩
  rw [hG] at HG1
  have HG2 : Hid (∀ w, Calls Try.prog 64 #[.int .i64 G, .int .i64 f.c] w fun e w' => e = .returned (.tuple #[.int .i64 (Int.gcd G f.c : Int), .agg #[.int .i64 0, .int .i64 0]]) ∧ Below w.heap.size w w') := fun w => Gcd_ok _ _ w (okB_of (by omega) (by omega))
  rw [hG]
  clear hG hg h1 h2 h3 h4 h5 h6
  unfold Qf.v
  go_enter Try.func46, Try.ntmps46
  go_wp2_with fail
  have F0 : Cl w.heap.size f.l 32 (w.alloc (.cells #[.int .i64 f.a, .int .i64 f.b, .int .i64 f.c] 32)) := Cl.new f.l _ w
  have K0 := al1 w (.cells #[.int .i64 f.a, .int .i64 f.b, .int .i64 f.c] 32)
  refine (HG1.out _).mono ?_
  rintro e w1 ⟨rfl, k1⟩
  have F1 := (F0.below k1).alloc (.cells #[.int .i64 0, .int .i64 0] 24)
  have HK1 : Hid (Below w.heap.size w (w1.alloc (.cells #[.int .i64 0, .int .i64 0] 24))) := (K0.trans (k1.mono K0.size)).trans ((al1 w1 _).mono (K0.trans (k1.mono K0.size)).size)
  have f2 := F1.cell 2
  simp at f2
  clear k1 F0 F1 K0
  go_wp2_with fail
  refine (HG2.out _).mono ?_
  rintro e w2 ⟨rfl, k2⟩
  have HK2 : Hid (Below w.heap.size w w2) := HK1.out.trans (k2.mono HK1.out.size)
  clear k2 f2 HK1
  go_wp2
  go_ret
  exact ⟨rfl, HK2.out⟩

theorem redB_of (a b c : Int) : Qf.redB ⟨a, b, c⟩ = (!(decide (a < max b (-b)) || decide (c < a)) && (decide (0 ≤ b) || (decide (max b (-b) < a) && decide (a < c)))) := by
  unfold Qf.redB
  simp only []
  rcases Int.lt_or_le a (max b (-b)) with h1 | h1 <;> rcases Int.lt_or_le c a with h2 | h2 <;> rcases Int.lt_or_le b 0 with h3 | h3 <;> rcases Int.lt_or_le (max b (-b)) a with h4 | h4 <;> rcases Int.lt_or_le a c with h5 | h5 <;>
    (rw [Bool.eq_iff_iff]; simp only [Bool.and_eq_true, Bool.or_eq_true, Bool.not_eq_true', Bool.or_eq_false_iff, decide_eq_true_eq, decide_eq_false_iff_not, bne_iff_ne]; omega)

set_option maxHeartbeats 1000000 in
theorem isReduced_any (f : Qf) (w : World) (h : f.upto 4000000000000) : Calls Try.prog 45 #[f.v] w fun e w' => e = .returned (.bool f.redB) ∧ Below w.heap.size w w' := by
  obtain ⟨a, b, c⟩ := f
  obtain ⟨h1, h2, h3, h4, h5, h6⟩ := h
  simp only [] at h1 h2 h3 h4 h5 h6
  rw [redB_of]
  unfold Qf.v
  simp only []
  obtain ⟨S, hS⟩ : ∃ S, max b (-b) = S := ⟨_, rfl⟩
  rw [hS]
  rcases Bool.eq_false_or_eq_true (decide (a < S)) with e1 | e1
  · rw [e1]
    simp only [Bool.true_or, Bool.not_true, Bool.false_and]
    · skip
      go_enter Try.func45, Try.ntmps45
      go_wp2
      go_ret
      exact ⟨rfl, (Below.alloc (Below.refl _ _) (Nat.le_refl _) _)⟩
  rcases Bool.eq_false_or_eq_true (decide (c < a)) with e2 | e2
  · rw [e1, e2]
    simp only [Bool.or_true, Bool.not_true, Bool.false_and]
    · skip
      go_enter Try.func45, Try.ntmps45
      go_wp2
      go_ret
      exact ⟨rfl, (Below.alloc (Below.refl _ _) (Nat.le_refl _) _)⟩
  rcases Bool.eq_false_or_eq_true (decide (0 ≤ b)) with e3 | e3
  · rw [e1, e2, e3]
    simp only [Bool.true_or, Bool.or_self, Bool.not_false, Bool.and_self]
    · skip
      go_enter Try.func45, Try.ntmps45
      go_wp2
      go_ret
      exact ⟨rfl, (Below.alloc (Below.refl _ _) (Nat.le_refl _) _)⟩
  rcases Bool.eq_false_or_eq_true (decide (S < a)) with e4 | e4
  · rcases Bool.eq_false_or_eq_true (decide (a < c)) with e5 | e5
    · rw [e1, e2, e3, e4, e5]
      go_enter Try.func45, Try.ntmps45
      go_wp2
      go_ret
      exact ⟨rfl, (Below.alloc (Below.refl _ _) (Nat.le_refl _) _)⟩
    · rw [e1, e2, e3, e4, e5]
      go_enter Try.func45, Try.ntmps45
      go_wp2
      go_ret
      exact ⟨rfl, (Below.alloc (Below.refl _ _) (Nat.le_refl _) _)⟩
  · rw [e1, e2, e3, e4]
    simp only [Bool.or_self, Bool.not_false, Bool.false_and, Bool.and_false]
    · skip
      go_enter Try.func45, Try.ntmps45
      go_wp2
      go_ret
      exact ⟨rfl, (Below.alloc (Below.refl _ _) (Nat.le_refl _) _)⟩

end Go.Proofs.Ytijkanilpblogae
