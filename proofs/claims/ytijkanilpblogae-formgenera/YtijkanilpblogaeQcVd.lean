import Derived.Test.YtijkanilpblogaeFormReducesWalk
import Derived.Test.YtijkanilpblogaeWholeE
import Derived.Test.YtijkanilpblogaeQfM
import Derived.Test.YtijkanilpblogaeQfL
import Derived.Test.YtijkanilpblogaeQfV
import Derived.BigRegion
import Derived.BigQuiet
import Derived.Test.YtijkanilpblogaeQfVd
import Derived.Deep.LoopGhost
import Derived.Test.YtijkanilpblogaeFormCom
import Derived.Test.YtijkanilpblogaeRegionG
import Derived.Test.YtijkanilpblogaeQfF
import Derived.Test.YtijkanilpblogaeFormClassesWalk
import Derived.Maps.AppendAt
section
/- The program: bound.Smalls, quad.discriminant, commonDivisor, isReduced, Check. -/
set_option linter.unusedSimpArgs false
set_option linter.unusedVariables false
set_option maxRecDepth 100000
namespace Go.Proofs.Ytijkanilpblogae
open Go.RowKit

/-- The fault of the first that is not small: its code and place. -/
def sf : Nat → List Int → Int × Int
  | _, [] => (0, 0)
  | i, x :: r => if okc x = true then sf (i + 1) r else (3, i)
theorem sf_skip (xs : List Int) (k : Nat) (hk : k ≤ xs.length) (h : ∀ j, j < k → okc (xs.getD j 0) = true) : sf 0 xs = sf k (xs.drop k) := by
  induction k with
  | zero => rfl
  | succ n ih =>
    rw [ih (by omega) (fun j hj => h j (by omega)), List.drop_eq_getElem_cons (by omega), sf]
    have := h n (by omega)
    rw [List.getD_eq_getElem?_getD, List.getElem?_eq_getElem (by omega), Option.getD_some] at this
    rw [if_pos this]
theorem sf_none (xs : List Int) (h : ∀ j, j < xs.length → okc (xs.getD j 0) = true) : sf 0 xs = (0, 0) := by
  rw [sf_skip xs xs.length (Nat.le_refl _) h, List.drop_length]; rfl
theorem sf_hit (xs : List Int) (k : Nat) (hk : k < xs.length) (h : ∀ j, j < k → okc (xs.getD j 0) = true) (hb : okc (xs.getD k 0) = false) : sf 0 xs = (3, (k : Int)) := by
  rw [sf_skip xs k (by omega) h, List.drop_eq_getElem_cons hk, sf]
  rw [List.getD_eq_getElem?_getD, List.getElem?_eq_getElem hk, Option.getD_some] at hb
  rw [if_neg (by simp [hb])]

set_option maxHeartbeats 1000000 in
theorem Smalls_any (xs : List Int) (b o cap : Nat) (w : World) (hl : xs.length ≤ 1000000000) (hb : b < w.heap.size)
    (hc : ∀ j, j < xs.length → w.cell? ⟨b, o + j, none⟩ = some (.int .i64 (xs.getD j 0))) :
    Calls Try.prog 47 #[.slice (some ⟨b, o, none⟩) xs.length cap] w fun e w' => e = .returned (.agg #[.int .i64 (sf 0 xs).1, .int .i64 (sf 0 xs).2]) ∧ Below w.heap.size w w' := by
  go_enter Try.func47, Try.ntmps47
  go_wp2
  go_loop [7] (fun i => ∃ k : Nat, k ≤ xs.length ∧ i = .int .i64 k ∧ ∀ j, j < k → okc (xs.getD j 0) = true) (fun i => xs.length - (intOf i).toNat)
  case atStart => exact ⟨0, Nat.zero_le _, rfl, fun j hj => absurd hj (Nat.not_lt_zero _)⟩
  case round =>
    obtain ⟨k, hk, rfl, hok⟩ := hrel
    have HOK : Hid (∀ j, j < k → okc (xs.getD j 0) = true) := hok
    have HC := hc
    clear hok hc
    by_cases hlt : k < xs.length
    · have hck := HC k hlt
      obtain ⟨x, hx⟩ : ∃ x, x = xs.getD k 0 := ⟨_, rfl⟩
      rw [← hx] at hck
      have HX : Hid (x = xs.getD k 0) := hx
      clear HC hx
      have h3 : x < -1000000 ∨ (-1000000 ≤ x ∧ 1000000 < x) ∨ (-1000000 ≤ x ∧ x ≤ 1000000) := by omega
      rcases h3 with h3 | h3 | h3
      · have t1 : decide (x < -1000000) = true := decide_eq_true h3
        have HN : Hid (okc x = false) := by show _ = _; unfold okc; simp; omega
        clear h3
        go_wp2
        refine bodyPost_ret (v := .agg #[.int .i64 3, .int .i64 k]) (by simp [results, Try.results47, go_sem]) rfl ⟨?_, ?_⟩
        · rw [sf_hit xs k hlt HOK.out (by rw [← HX.out]; exact HN.out)]
        · exact Below.alloc (Below.refl _ _) (Nat.le_refl _) _
      · have t1 : decide (x < -1000000) = false := decide_eq_false (by omega)
        have t2 : decide (1000000 < x) = true := decide_eq_true h3.2
        have HN : Hid (okc x = false) := by show _ = _; unfold okc; simp; omega
        clear h3
        go_wp2
        refine bodyPost_ret (v := .agg #[.int .i64 3, .int .i64 k]) (by simp [results, Try.results47, go_sem]) rfl ⟨?_, ?_⟩
        · rw [sf_hit xs k hlt HOK.out (by rw [← HX.out]; exact HN.out)]
        · exact Below.alloc (Below.refl _ _) (Nat.le_refl _) _
      · have t1 : decide (x < -1000000) = false := decide_eq_false (by omega)
        have t2 : decide (1000000 < x) = false := decide_eq_false (by omega)
        have HN : Hid (okc x = true) := by show _ = _; unfold okc; simp; omega
        clear h3
        go_wp2
        go_round
        case rel =>
          refine ⟨k + 1, by omega, by go_num, fun j hj => ?_⟩
          by_cases hjk : j = k
          · subst hjk; rw [← HX.out]; exact HN.out
          · exact HOK.out j (by omega)
        case measure => simp [intOf]; omega
    · go_wp2
      refine bodyPost_ret (v := .agg #[.int .i64 0, .int .i64 0]) (by simp [results, Try.results47, go_sem]) rfl ⟨?_, ?_⟩
      · rw [sf_none xs (fun j hj => HOK.out j (by omega))]
      · exact Below.alloc (Below.refl _ _) (Nat.le_refl _) _

set_option maxHeartbeats 1000000 in
theorem discriminant_any (f : Qf) (w : World) (h : f.upto 1000000) : Calls Try.prog 32 #[f.v] w fun e w' => e = .returned (.int .i64 f.disc) ∧ Below w.heap.size w w' := by
  obtain ⟨a, b, c⟩ := f
  obtain ⟨h1, h2, h3, h4, h5, h6⟩ := h
  simp only [] at h1 h2 h3 h4 h5 h6
  have e1 := sq_bd h3 h4 h3 h4
  have e2 := sq_bd h1 h2 h5 h6
  have e3 : 4 * a * c = 4 * (a * c) := Int.mul_assoc ..
  obtain ⟨p, hp⟩ : ∃ p, b * b = p := ⟨_, rfl⟩
  obtain ⟨q, hq⟩ : ∃ q, 4 * a * c = q := ⟨_, rfl⟩
  have HD : Hid (Qf.disc ⟨a, b, c⟩ = p - q) := by show _ = _; unfold Qf.disc; rw [hp, hq]
  rw [HD.out]
  rw [hp] at e1
  have e4 : -4000000000000 ≤ q ∧ q ≤ 4000000000000 := by rw [← hq, e3]; omega
  clear e2 e3 HD
  unfold Qf.v
  go_enter Try.func32, Try.ntmps32
  go_wp2
  go_ret
  exact ⟨rfl, Below.alloc (Below.refl _ _) (Nat.le_refl _) _⟩

theorem okB_of {a b : Int} (ha : a.natAbs ≤ 1000000000000000000) (hb : b.natAbs ≤ 1000000000000000000) : okB a b = true := by
  unfold okB numB; simp; omega
theorem gcd_up {a b : Int} (ha : a.natAbs ≤ 1000000000000) (hb : b.natAbs ≤ 1000000000000) : Int.gcd a b ≤ 1000000000000 := by
  unfold Int.gcd
  by_cases h : b.natAbs = 0
  · rw [h, Nat.gcd_zero_right]; exact ha
  · exact Nat.le_trans (Nat.gcd_le_right _ (by omega)) hb

set_option maxHeartbeats 1000000 in
theorem commonDivisor_any (f : Qf) (w : World) (h : f.upto 1000000) : Calls Try.prog 46 #[f.v] w fun e w' => e = .returned (.int .i64 (Int.gcd (Int.gcd f.a f.b) f.c : Int)) ∧ Below w.heap.size w w' := by
  obtain ⟨h1, h2, h3, h4, h5, h6⟩ := h
  have HG1 : Hid (∀ w, Calls Try.prog 64 #[.int .i64 f.a, .int .i64 f.b] w fun e w' => e = .returned (.tuple #[.int .i64 (Int.gcd f.a f.b : Int), .agg #[.int .i64 0, .int .i64 0]]) ∧ Below w.heap.size w w') := fun w => Gcd_ok _ _ w (okB_of (by omega) (by omega))
  have hg := gcd_up (a := f.a) (b := f.b) (by omega) (by omega)
  obtain ⟨G, hG⟩ : ∃ G : Int, (Int.gcd f.a f.b : Int) = G := ⟨_, rfl⟩
  rw [hG] at HG1
  have HG2 : Hid (∀ w, Calls Try.prog 64 #[.int .i64 G, .int .i64 f.c] w fun e w' => e = .returned (.tuple #[.int .i64 (Int.gcd G f.c : Int), .agg #[.int .i64 0, .int .i64 0]]) ∧ Below w.heap.size w w') := fun w => Gcd_ok _ _ w (okB_of (by omega) (by omega))
  rw [hG]
  clear hG hg h1 h2 h3 h4 h5 h6
  unfold Qf.v
  go_enter Try.func46, Try.ntmps46
  go_wp2_with fail
  have F0 : Cl w.heap.size f.l 32 (w.alloc (.cells #[.int .i64 f.a, .int .i64 f.b, .int .i64 f.c] 32)) := Cl.new f.l _ w
  have K0 := al1 w (.cells #[.int .i64 f.a, .int .i64 f.b, .int .i64 f.c] 32)
  refine (HG1.out _).mono ?_
  rintro e w1 ⟨rfl, k1⟩
  have F1 := (F0.below k1).alloc (.cells #[.int .i64 0, .int .i64 0] 24)
  have HK1 : Hid (Below w.heap.size w (w1.alloc (.cells #[.int .i64 0, .int .i64 0] 24))) := (K0.trans (k1.mono K0.size)).trans ((al1 w1 _).mono (K0.trans (k1.mono K0.size)).size)
  have f2 := F1.cell 2
  simp at f2
  clear k1 F0 F1 K0
  go_wp2_with fail
  refine (HG2.out _).mono ?_
  rintro e w2 ⟨rfl, k2⟩
  have HK2 : Hid (Below w.heap.size w w2) := HK1.out.trans (k2.mono HK1.out.size)
  clear k2 f2 HK1
  go_wp2
  go_ret
  exact ⟨rfl, HK2.out⟩

theorem redB_of (a b c : Int) : Qf.redB ⟨a, b, c⟩ = (!(decide (a < max b (-b)) || decide (c < a)) && (decide (0 ≤ b) || (decide (max b (-b) < a) && decide (a < c)))) := by
  unfold Qf.redB
  simp only []
  rcases Int.lt_or_le a (max b (-b)) with h1 | h1 <;> rcases Int.lt_or_le c a with h2 | h2 <;> rcases Int.lt_or_le b 0 with h3 | h3 <;> rcases Int.lt_or_le (max b (-b)) a with h4 | h4 <;> rcases Int.lt_or_le a c with h5 | h5 <;>
    (rw [Bool.eq_iff_iff]; simp only [Bool.and_eq_true, Bool.or_eq_true, Bool.not_eq_true', Bool.or_eq_false_iff, decide_eq_true_eq, decide_eq_false_iff_not, bne_iff_ne]; omega)

set_option maxHeartbeats 1000000 in
theorem isReduced_any (f : Qf) (w : World) (h : f.upto 4000000000000) : Calls Try.prog 45 #[f.v] w fun e w' => e = .returned (.bool f.redB) ∧ Below w.heap.size w w' := by
  obtain ⟨a, b, c⟩ := f
  obtain ⟨h1, h2, h3, h4, h5, h6⟩ := h
  simp only [] at h1 h2 h3 h4 h5 h6
  rw [redB_of]
  unfold Qf.v
  simp only []
  obtain ⟨S, hS⟩ : ∃ S, max b (-b) = S := ⟨_, rfl⟩
  rw [hS]
  rcases Bool.eq_false_or_eq_true (decide (a < S)) with e1 | e1
  · rw [e1]
    simp only [Bool.true_or, Bool.not_true, Bool.false_and]
    · skip
      go_enter Try.func45, Try.ntmps45
      go_wp2
      go_ret
      exact ⟨rfl, (Below.alloc (Below.refl _ _) (Nat.le_refl _) _)⟩
  rcases Bool.eq_false_or_eq_true (decide (c < a)) with e2 | e2
  · rw [e1, e2]
    simp only [Bool.or_true, Bool.not_true, Bool.false_and]
    · skip
      go_enter Try.func45, Try.ntmps45
      go_wp2
      go_ret
      exact ⟨rfl, (Below.alloc (Below.refl _ _) (Nat.le_refl _) _)⟩
  rcases Bool.eq_false_or_eq_true (decide (0 ≤ b)) with e3 | e3
  · rw [e1, e2, e3]
    simp only [Bool.true_or, Bool.or_self, Bool.not_false, Bool.and_self]
    · skip
      go_enter Try.func45, Try.ntmps45
      go_wp2
      go_ret
      exact ⟨rfl, (Below.alloc (Below.refl _ _) (Nat.le_refl _) _)⟩
  rcases Bool.eq_false_or_eq_true (decide (S < a)) with e4 | e4
  · rcases Bool.eq_false_or_eq_true (decide (a < c)) with e5 | e5
    · rw [e1, e2, e3, e4, e5]
      go_enter Try.func45, Try.ntmps45
      go_wp2
      go_ret
      exact ⟨rfl, (Below.alloc (Below.refl _ _) (Nat.le_refl _) _)⟩
    · rw [e1, e2, e3, e4, e5]
      go_enter Try.func45, Try.ntmps45
      go_wp2
      go_ret
      exact ⟨rfl, (Below.alloc (Below.refl _ _) (Nat.le_refl _) _)⟩
  · rw [e1, e2, e3, e4]
    simp only [Bool.or_self, Bool.not_false, Bool.false_and, Bool.and_false]
    · skip
      go_enter Try.func45, Try.ntmps45
      go_wp2
      go_ret
      exact ⟨rfl, (Below.alloc (Below.refl _ _) (Nat.le_refl _) _)⟩

end Go.Proofs.Ytijkanilpblogae
end

section
/- The program: quad.Check. -/
set_option linter.unusedSimpArgs false
set_option linter.unusedVariables false
set_option maxRecDepth 100000
namespace Go.Proofs.Ytijkanilpblogae
open Go.RowKit

theorem small_cells (a b c : Int) (W : World) (B : Nat) (h : Cl B [.int .i64 a, .int .i64 b, .int .i64 c] 3 W) :
    ∀ j, j < [a, b, c].length → W.cell? ⟨B, 0 + j, none⟩ = some (.int .i64 ([a, b, c].getD j 0)) := by
  intro j hj
  match j, hj with
  | 0, _ => exact h.cell 0
  | 1, _ => exact h.cell 1
  | 2, _ => exact h.cell 2

theorem sf_three (a b c : Int) : (sf 0 [a, b, c] = (0, 0) ∧ okc a = true ∧ okc b = true ∧ okc c = true) ∨ ((sf 0 [a, b, c]).1 = 3 ∧ ∀ f : Qf, f.a = a → f.b = b → f.c = c → ffault f = sf 0 [a, b, c]) := by
  unfold sf sf sf sf
  cases h1 : okc a
  · right
    refine ⟨by simp, fun f e1 e2 e3 => ?_⟩
    subst e1 e2 e3
    simp [ffault, h1]
  cases h2 : okc b
  · right
    refine ⟨by simp, fun f e1 e2 e3 => ?_⟩
    subst e1 e2 e3
    simp [ffault, h1, h2]
  cases h3 : okc c
  · right
    refine ⟨by simp, fun f e1 e2 e3 => ?_⟩
    subst e1 e2 e3
    simp [ffault, h1, h2, h3]
  left
  simp

set_option maxHeartbeats 4000000 in
theorem Check_any (f : Qf) (w : World) : Calls Try.prog 31 #[f.v] w fun e w' => e = .returned (ffv (ffault f)) ∧ Below w.heap.size w w' := by
  obtain ⟨c0, d0, hcd⟩ : ∃ c d, ffault f = (c, d) := ⟨_, _, rfl⟩
  rw [hcd]
  have HCD : Hid (ffault f = (c0, d0)) := hcd
  clear hcd
  obtain ⟨c1, d1, hs⟩ : ∃ c d, sf 0 [f.a, f.b, f.c] = (c, d) := ⟨_, _, rfl⟩
  have HS3 : Hid ((c1 = 0 ∧ d1 = 0 ∧ okc f.a = true ∧ okc f.b = true ∧ okc f.c = true) ∨ (c1 = 3 ∧ c0 = c1 ∧ d0 = d1)) := by
    show _ ∨ _
    have h := sf_three f.a f.b f.c
    rw [hs] at h
    rcases h with ⟨h1, h2⟩ | ⟨h1, h2⟩
    · left; simp at h1; exact ⟨h1.1, h1.2, h2⟩
    · right
      have h3 := h2 f rfl rfl rfl
      rw [HCD.out] at h3
      simp at h1 h3
      exact ⟨h1, h3.1, h3.2⟩
  have HSm : Hid (sf 0 [f.a, f.b, f.c] = (c1, d1)) := hs
  clear hs
  unfold Qf.v ffv
  go_enter Try.func31, Try.ntmps31
  go_wp2_with fail
  obtain ⟨W1, hW1⟩ : ∃ W1, W1 = ((w.alloc (.cells #[.int .i64 f.a, .int .i64 f.b, .int .i64 f.c] 32)).alloc (.cells #[.int .i64 0, .int .i64 0] 24)).alloc (.cells #[.int .i64 f.a, .int .i64 f.b, .int .i64 f.c] 3) := ⟨_, rfl⟩
  have C0 : Cl w.heap.size f.l 32 W1 := by rw [hW1]; exact ((Cl.new f.l _ w).alloc _).alloc _
  have C1 : Sv (w.heap.size + 1) 0 0 W1 := by rw [hW1]; exact sv_al (sv_new0 _ _ _ (by simp) _ _) _
  have C2 : Cl (w.heap.size + 1 + 1) [.int .i64 f.a, .int .i64 f.b, .int .i64 f.c] 3 W1 := by rw [hW1]; exact cl_new0 _ _ _ _ (by simp)
  have K1 : Below w.heap.size w W1 := by rw [hW1]; exact Below.alloc (Below.alloc (Below.alloc (Below.refl _ _) (Nat.le_refl _) _) (by simp) _) (by simp; omega) _
  rw [← hW1]
  clear hW1
  refine (Smalls_any [f.a, f.b, f.c] _ 0 _ _ (by simp) C2.lt (small_cells _ _ _ _ _ C2)).mono ?_
  rw [HSm.out]
  rintro e w1 ⟨rfl, k1⟩
  have k2 : Below w1.heap.size w1 (w1.alloc (.cells #[.int .i64 c1, .int .i64 d1] 24)) := al1 _ _
  have HS : Hid (Sv (w.heap.size + 1) 0 0 (w1.alloc (.cells #[.int .i64 c1, .int .i64 d1] 24)) ∧ Cl w.heap.size f.l 32 (w1.alloc (.cells #[.int .i64 c1, .int .i64 d1] 24)) ∧ Below w.heap.size w (w1.alloc (.cells #[.int .i64 c1, .int .i64 d1] 24))) :=
    ⟨(C1.below k1).below k2, (C0.below k1).below k2, K1.trans ((k1.trans (k2.mono k1.size)).mono K1.size)⟩
  clear C0 C1 C2 K1 k1 k2 HSm
  rcases HS3.out with ⟨rfl, rfl, ha, hb, hc⟩ | ⟨rfl, rfl, rfl⟩
  · clear HS3
    have HU : Hid (f.upto 1000000) := by
      have h1 := okc_true ha; have h2 := okc_true hb; have h3 := okc_true hc
      exact ⟨h1.1, h1.2, h2.1, h2.2, h3.1, h3.2⟩
    have HF : Hid (ffault f = if f.a < 1 ∨ 0 ≤ f.disc then (7, 0) else if Int.gcd (Int.gcd f.a f.b) f.c ≠ 1 then (6, 0) else (0, 0)) := by
      show _ = _
      rw [ffault, if_neg (by simp [ha]), if_neg (by simp [hb]), if_neg (by simp [hc])]
    clear ha hb hc
    have f0 := HS.out.2.1.cell 0
    have f1 := HS.out.2.1.cell 1
    have f2 := HS.out.2.1.cell 2
    simp at f0 f1 f2
    by_cases hA : f.a < 1
    · have t1 : decide (f.a < 1) = true := decide_eq_true hA
      obtain ⟨rfl, rfl⟩ : c0 = 7 ∧ d0 = 0 := by
        have h := HCD.out
        rw [HF.out, if_pos (.inl hA)] at h
        simp at h; omega
      clear hA HF
      have q0 := HS.out.1.c0
      have q1 := HS.out.1.c1
      have q2 := HS.out.1.f0
      have q3 := HS.out.1.f1
      have q4 := HS.out.1.lt
      have HKK : Hid (Below _ _ _) := HS.out.2.2
      clear HS
      go_wp2
      refine bodyPost_ret (v := .agg #[.int .i64 _, .int .i64 _]) (by simp [results, Try.results31, go_sem, q0, q1, q4]) rfl ⟨rfl, ?_⟩
      exact (HKK.out.setCell (by show w.heap.size ≤ w.heap.size + 1; omega) _).setCell (by show w.heap.size ≤ w.heap.size + 1; omega) _
    · have t1 : decide (f.a < 1) = false := decide_eq_false hA
      have HD : Hid (∀ w, Calls Try.prog 32 #[f.v] w fun e w' => e = .returned (.int .i64 f.disc) ∧ Below w.heap.size w w') := fun w => discriminant_any f w HU.out
      have HG : Hid (∀ w, Calls Try.prog 46 #[f.v] w fun e w' => e = .returned (.int .i64 (Int.gcd (Int.gcd f.a f.b) f.c : Int)) ∧ Below w.heap.size w w') := fun w => commonDivisor_any f w HU.out
      obtain ⟨D, hD⟩ : ∃ D, f.disc = D := ⟨_, rfl⟩
      have HDD : Hid (f.disc = D) := hD
      obtain ⟨G, hG⟩ : ∃ G : Nat, Int.gcd (Int.gcd f.a f.b) f.c = G := ⟨_, rfl⟩
      have HGG : Hid (Int.gcd (Int.gcd f.a f.b) f.c = G) := hG
      rw [hD] at HD
      rw [hG] at HG
      unfold Qf.v at HD HG
      have hG1 : 1 ≤ G := by
        rcases Nat.eq_zero_or_pos G with h | h
        · exfalso
          rw [h] at hG
          have h1 := Int.gcd_eq_zero_iff.1 hG
          have h2 := Int.gcd_eq_zero_iff.1 (show Int.gcd f.a f.b = 0 by have := h1.1; omega)
          omega
        · exact h
      have HA : Hid (¬ f.a < 1 ∧ 1 ≤ G) := ⟨hA, hG1⟩
      clear hD hG hG1 hA
      go_wp2_with fail
      refine (HD.out _).mono ?_
      rintro e w3 ⟨rfl, k3⟩
      have HS' : Hid (Sv (w.heap.size + 1) 0 0 w3 ∧ Cl w.heap.size f.l 32 w3 ∧ Below w.heap.size w w3) := ⟨HS.out.1.below k3, HS.out.2.1.below k3, HS.out.2.2.trans (k3.mono HS.out.2.2.size)⟩
      clear HS k3 f0 f1 f2 HD
      have HS := HS'
      clear HS'
      by_cases hD : 0 ≤ D
      · have t2 : decide (0 ≤ D) = true := decide_eq_true hD
        obtain ⟨rfl, rfl⟩ : c0 = 7 ∧ d0 = 0 := by
          have h := HCD.out
          rw [HF.out, if_pos (.inr (by rw [HDD.out]; exact hD))] at h
          simp at h; omega
        clear hD HF
        have q0 := HS.out.1.c0
        have q1 := HS.out.1.c1
        have q2 := HS.out.1.f0
        have q3 := HS.out.1.f1
        have q4 := HS.out.1.lt
        have HKK : Hid (Below _ _ _) := HS.out.2.2
        clear HS
        go_wp2
        refine bodyPost_ret (v := .agg #[.int .i64 _, .int .i64 _]) (by simp [results, Try.results31, go_sem, q0, q1, q4]) rfl ⟨rfl, ?_⟩
        exact (HKK.out.setCell (by show w.heap.size ≤ w.heap.size + 1; omega) _).setCell (by show w.heap.size ≤ w.heap.size + 1; omega) _
      · have t2 : decide (0 ≤ D) = false := decide_eq_false hD
        have HN : Hid (¬ (f.a < 1 ∨ 0 ≤ f.disc)) := by
          show ¬ _
          rw [HDD.out]; have := HA.out.1; omega
        clear hD
        have f0 := HS.out.2.1.cell 0
        have f1 := HS.out.2.1.cell 1
        have f2 := HS.out.2.1.cell 2
        simp at f0 f1 f2
        go_wp2_with fail
        refine (HG.out _).mono ?_
        rintro e w4 ⟨rfl, k3⟩
        have HS' : Hid (Sv (w.heap.size + 1) 0 0 w4 ∧ Cl w.heap.size f.l 32 w4 ∧ Below w.heap.size w w4) := ⟨HS.out.1.below k3, HS.out.2.1.below k3, HS.out.2.2.trans (k3.mono HS.out.2.2.size)⟩
        clear HS k3 f0 f1 f2 HG
        have HS := HS'
        clear HS'
        by_cases hE : 1 < G
        · have t3 : decide (1 < (G : Int)) = true := decide_eq_true (by omega)
          obtain ⟨rfl, rfl⟩ : c0 = 6 ∧ d0 = 0 := by
            have h := HCD.out
            rw [HF.out, if_neg HN.out, if_pos (by rw [HGG.out]; omega)] at h
            simp at h; omega
          clear hE HF
          have q0 := HS.out.1.c0
          have q1 := HS.out.1.c1
          have q2 := HS.out.1.f0
          have q3 := HS.out.1.f1
          have q4 := HS.out.1.lt
          have HKK : Hid (Below _ _ _) := HS.out.2.2
          clear HS
          go_wp2
          refine bodyPost_ret (v := .agg #[.int .i64 _, .int .i64 _]) (by simp [results, Try.results31, go_sem, q0, q1, q4]) rfl ⟨rfl, ?_⟩
          exact (HKK.out.setCell (by show w.heap.size ≤ w.heap.size + 1; omega) _).setCell (by show w.heap.size ≤ w.heap.size + 1; omega) _
        · have t3 : decide (1 < (G : Int)) = false := decide_eq_false (by omega)
          obtain ⟨rfl, rfl⟩ : c0 = 0 ∧ d0 = 0 := by
            have h := HCD.out
            rw [HF.out, if_neg HN.out, if_neg (by rw [HGG.out]; have := HA.out.2; omega)] at h
            simp at h; omega
          clear hE HF
          have q0 := HS.out.1.c0
          have q1 := HS.out.1.c1
          have q2 := HS.out.1.f0
          have q3 := HS.out.1.f1
          have q4 := HS.out.1.lt
          have HKK : Hid (Below _ _ _) := HS.out.2.2
          clear HS
          go_wp2
          refine bodyPost_ret (v := .agg #[.int .i64 _, .int .i64 _]) (by simp [results, Try.results31, go_sem, q0, q1, q4]) rfl ⟨rfl, ?_⟩
          exact (HKK.out.setCell (by show w.heap.size ≤ w.heap.size + 1; omega) _).setCell (by show w.heap.size ≤ w.heap.size + 1; omega) _
  · clear HS3
    have q0 := HS.out.1.c0
    have q1 := HS.out.1.c1
    have q2 := HS.out.1.f0
    have q3 := HS.out.1.f1
    have q4 := HS.out.1.lt
    have HKK : Hid (Below _ _ _) := HS.out.2.2
    clear HS
    go_wp2
    refine bodyPost_ret (v := .agg #[.int .i64 _, .int .i64 _]) (by simp [results, Try.results31, go_sem, q0, q1, q4]) rfl ⟨rfl, ?_⟩
    exact (HKK.out.setCell (by show w.heap.size ≤ w.heap.size + 1; omega) _).setCell (by show w.heap.size ≤ w.heap.size + 1; omega) _

end Go.Proofs.Ytijkanilpblogae
end

section
/- Plain facts of the program's reduction (slide, swap) and composition. -/
set_option linter.unusedSimpArgs false
set_option linter.unusedVariables false
set_option maxRecDepth 100000
namespace Go.Proofs.Ytijkanilpblogae

/-- One slide: A stays, B is brought above -A and not above A. -/
def slideK (f : Qf) : Int := (f.a - f.b) / (2 * f.a)
def slideF (f : Qf) : Qf := ⟨f.a, f.b + 2 * f.a * slideK f, f.c + slideK f * f.b + f.a * (slideK f * slideK f)⟩
def slideM (f : Qf) (m : Mt) : Mt := ⟨m.p, m.q + slideK f * m.p, m.r, m.s + slideK f * m.r⟩
def swapF (f : Qf) : Qf := ⟨f.c, -f.b, f.a⟩
def swapM (m : Mt) : Mt := ⟨m.q, -m.p, m.s, -m.r⟩

theorem slide_b {f : Qf} (ha : 1 ≤ f.a) : (slideF f).b = f.a - (f.a - f.b) % (2 * f.a) ∧ -f.a < (slideF f).b ∧ (slideF f).b ≤ f.a := by
  have h1 := Int.emod_add_mul_ediv (f.a - f.b) (2 * f.a)
  have h2 := Int.emod_nonneg (f.a - f.b) (show 2 * f.a ≠ 0 by omega)
  have h3 := Int.emod_lt_of_pos (f.a - f.b) (show 0 < 2 * f.a by omega)
  show f.b + 2 * f.a * ((f.a - f.b) / (2 * f.a)) = _ ∧ _ < f.b + 2 * f.a * ((f.a - f.b) / (2 * f.a)) ∧ f.b + 2 * f.a * ((f.a - f.b) / (2 * f.a)) ≤ _
  omega

theorem slide_disc (f : Qf) : (slideF f).disc = f.disc := by
  simp only [slideF, Qf.disc]; grind
theorem swap_disc (f : Qf) : (swapF f).disc = f.disc := by
  simp only [swapF, Qf.disc]; grind

theorem slide_lk {f g : Qf} {m : Mt} (h : MQ.Lk f g m) : MQ.Lk f (slideF g) (slideM g m) := by
  have h1 := h.det
  refine ⟨by simp only [slideM]; grind, fun x y => ?_⟩
  have h2 := h.like (x + slideK g * y) y
  have e : (slideF g).at x y = g.at (x + slideK g * y) y := by simp only [slideF, Qf.at]; grind
  rw [e, ← h2]
  simp only [slideM]
  congr 1 <;> grind
theorem swap_lk {f g : Qf} {m : Mt} (h : MQ.Lk f g m) : MQ.Lk f (swapF g) (swapM m) := by
  have h1 := h.det
  refine ⟨by simp only [swapM]; grind, fun x y => ?_⟩
  have h2 := h.like (-y) x
  have e : (swapF g).at x y = g.at (-y) x := by simp only [swapF, Qf.at]; grind
  rw [e, ← h2]
  simp only [swapM]
  congr 1 <;> grind

theorem pos_of_mul {a c : Int} (ha : 1 ≤ a) (h : 0 < a * c) : 1 ≤ c := by
  rcases Int.lt_or_le c 1 with h1 | h1
  · have : a * c ≤ 0 := Int.mul_nonpos_of_nonneg_of_nonpos (by omega) (by omega)
    omega
  · exact h1

/-- C stays above 0. -/
theorem disc_c {f : Qf} (ha : 1 ≤ f.a) (hd : f.disc < 0) : 1 ≤ f.c := by
  refine pos_of_mul ha ?_
  have h1 : f.disc = f.b * f.b - 4 * (f.a * f.c) := by unfold Qf.disc; grind
  have h2 := sq_nn f.b
  omega

theorem sq_le_sq {x y : Int} (h : x.natAbs ≤ y.natAbs) : x * x ≤ y * y := by
  have : x.natAbs * x.natAbs ≤ y.natAbs * y.natAbs := Nat.mul_le_mul h h
  have e1 : ((x.natAbs * x.natAbs : Nat) : Int) = x * x := by simp [Int.natAbs_mul_self']
  have e2 : ((y.natAbs * y.natAbs : Nat) : Int) = y * y := by simp [Int.natAbs_mul_self']
  omega

/-- .. and grows no more. -/
theorem slide_c {f : Qf} (ha : 1 ≤ f.a) (hd : f.disc < 0) : 1 ≤ (slideF f).c ∧ (slideF f).c ≤ f.c ∧ (slideF f).b.natAbs ≤ f.b.natAbs := by
  have hb := slide_b ha
  have ha' : (slideF f).a = f.a := rfl
  have h1 := disc_c (f := slideF f) (by rw [ha']; exact ha) (by rw [slide_disc]; exact hd)
  have hsz : (slideF f).b.natAbs ≤ f.b.natAbs := by
    rcases Int.lt_or_le (-f.a) f.b with h2 | h2
    · rcases Int.lt_or_le f.a f.b with h3 | h3
      · omega
      · have : (f.a - f.b) % (2 * f.a) = f.a - f.b := Int.emod_eq_of_lt (by omega) (by omega)
        omega
    · omega
  refine ⟨h1, ?_, hsz⟩
  have e1 : (slideF f).disc = (slideF f).b * (slideF f).b - 4 * (f.a * (slideF f).c) := by rw [← ha']; unfold Qf.disc; grind
  have e2 : f.disc = f.b * f.b - 4 * (f.a * f.c) := by unfold Qf.disc; grind
  have e3 := sq_le_sq hsz
  have e4 := slide_disc f
  have e5 : f.a * (slideF f).c ≤ f.a * f.c := by omega
  exact Int.le_of_mul_le_mul_left e5 (by omega)

/-- The numbers that the program reckons on the way. -/
theorem slide_k {f : Qf} : slideK f * (f.b + (slideF f).b) = 2 * ((slideF f).c - f.c) := by
  simp only [slideF]; grind
theorem slide_div {f : Qf} (ha : 1 ≤ f.a) : ((slideF f).b - f.b).tdiv (2 * f.a) = slideK f := by
  have : (slideF f).b - f.b = slideK f * (2 * f.a) := by simp only [slideF]; grind
  rw [this, Int.mul_tdiv_cancel _ (by omega)]
theorem slide_half {f : Qf} : (slideK f * (f.b + (slideF f).b)).tdiv 2 = (slideF f).c - f.c := by
  rw [slide_k, Int.mul_tdiv_cancel_left _ (by decide)]

/-- What isn't reduced, though slid: a swap makes it less. -/
def slidB (f : Qf) : Prop := -f.a < f.b ∧ f.b ≤ f.a
def mea (f : Qf) : Nat := 2 * f.a.toNat + (if f.b < 0 then 1 else 0)
theorem mea_less {f : Qf} (ha : 1 ≤ f.a) (hd : f.disc < 0) (hs : slidB f) (hr : f.redB = false) : mea (slideF (swapF f)) < mea f := by
  have hc := disc_c ha hd
  have hx : f.c < f.a ∨ (f.c = f.a ∧ f.b < 0) := by
    unfold Qf.redB at hr
    obtain ⟨h1, h2⟩ := hs
    simp at hr
    omega
  have e : (slideF (swapF f)).a = f.c := rfl
  unfold mea
  rw [e]
  rcases hx with hx | ⟨hx, hb⟩
  · split <;> split <;> omega
  · have h1 := slide_b (f := swapF f) (by show 1 ≤ f.c; exact hc)
    have h2 : (slideF (swapF f)).b = -f.b := by
      rw [h1.1]
      show f.c - (f.c - -f.b) % (2 * f.c) = -f.b
      obtain ⟨h3, h4⟩ := hs
      rw [Int.emod_eq_of_lt (by omega) (by omega)]; omega
    rw [h2, if_neg (by omega), if_pos hb, hx]; omega
namespace MQ
variable {s n : Int}

theorem val_x {e A B S k l m n x y z t t1 t2 t3 : Int} (h1 : l = m + B * t2) (h2 : k = m + A * t1) (h3 : k * l + n = e * S * m + e * A * B * t3) :
    (e * A * x + k * y) * (e * B * z + l * t) + n * (y * t) = e * (A * B * (e * (x * z) + t2 * (x * t) + t1 * (y * z) + t3 * (y * t)) + m * (A * (x * t) + B * (y * z) + S * (y * t))) := by
  have h4 : n = e * S * m + e * A * B * t3 - k * l := by omega
  subst h4
  clear h3
  subst h1 h2
  grind
theorem val_y {e A B S k l s x y z t : Int} (h : k + l + s = e * S) :
    (e * A * x + k * y) * t + y * (e * B * z + l * t) + s * (y * t) = e * (A * (x * t) + B * (y * z) + S * (y * t)) := by
  have h4 : s = e * S - k - l := by omega
  subst h4
  grind

theorem val_end {fa ga F G E ha V : Int} (h : fa * F * (ga * G) = E * (ha * V)) (k : fa * ga = E * ha) : fa * ga * (F * G) = fa * ga * V := by
  have h1 : fa * ga * (F * G) = fa * F * (ga * G) := by grind
  rw [h1, h, k]
  grind

/-- What a value of f and one of g make is a value of h. -/
theorem Co.value {f g h : Qf} {k l m : Int} (hf : Fk s n f k) (hg : Fk s n g l) (hh : Fk s n h m) (c : Co s n f g h k l m) (x y z t : Int) : ∃ X Y : Int, f.at x y * g.at z t = h.at X Y := by
  obtain ⟨e, A, B, S, t1, t2, t3, _, _, _, _, _, _, _, he, hA, hB, hC, hS, _, h2, h1, h3, _⟩ := c.gen
  refine ⟨e * (x * z) + t2 * (x * t) + t1 * (y * z) + t3 * (y * t), A * (x * t) + B * (y * z) + S * (y * t), ?_⟩
  have e1 : Zw.zm (⟨f.a * x + k * y, y⟩ : Zw s n) ⟨g.a * z + l * t, t⟩ = Zw.zm (Zw.ic e) ⟨h.a * (e * (x * z) + t2 * (x * t) + t1 * (y * z) + t3 * (y * t)) + m * (A * (x * t) + B * (y * z) + S * (y * t)), A * (x * t) + B * (y * z) + S * (y * t)⟩ := by
    have k1 : l = m + B * t2 := by omega
    have k2 : k = m + A * t1 := by omega
    have k3 : k * l + n = e * S * m + e * A * B * t3 := by omega
    refine Zw.eq ?_ ?_
    · simp only [Zw.zm, Zw.ic]
      rw [hA, hB, hC]
      have := val_x (x := x) (y := y) (z := z) (t := t) k1 k2 k3
      simp only [Int.zero_mul, Int.mul_zero, Int.add_zero]
      exact this
    · simp only [Zw.zm, Zw.ic]
      rw [hA, hB]
      have := val_y (x := x) (y := y) (z := z) (t := t) (A := A) (B := B) hS
      simp only [Int.zero_mul, Int.add_zero, Int.mul_zero]
      exact this
  have e2 := congrArg Zw.norm e1
  rw [Zw.norm_mul, Zw.norm_mul, norm_at hf, norm_at hg, norm_at hh] at e2
  have e3 : (Zw.ic e : Zw s n).norm = e * e := by simp [Zw.norm, Zw.ic]
  rw [e3] at e2
  have h0 := hh.a
  have e4 : e * e * h.a ≠ 0 := Int.mul_ne_zero (Int.mul_ne_zero he he) (by omega)
  refine Int.eq_of_mul_eq_mul_left e4 ?_
  rw [show e * e * h.a = f.a * g.a by rw [hA, hB, hC]; grind]
  have e5 : f.a * g.a = e * e * h.a := by rw [hA, hB, hC]; grind
  generalize h.at _ _ = V at *
  generalize f.at x y = F at *
  generalize g.at z t = G at *
  exact val_end e2 e5

/-- What is like a form, or made of two, has no common divisor, if they have none. -/
theorem Co.pm {f g h : Qf} {k l m : Int} (hf : Fk s n f k) (hg : Fk s n g l) (hh : Fk s n h m) (c : Co s n f g h k l m) (pf : Pm f) (pg : Pm g) {r : Qf} {M : Mt} (lk : Lk h r M) (hr : 1 ≤ r.a) : Int.gcd (Int.gcd r.a r.b) r.c = 1 := by
  obtain ⟨d, hd⟩ : ∃ d : Int, d = (Int.gcd (Int.gcd r.a r.b) r.c : Int) := ⟨_, rfl⟩
  have d1 : d ∣ r.a := hd ▸ Int.dvd_trans (Int.gcd_dvd_left ..) (Int.gcd_dvd_left ..)
  have d2 : d ∣ r.b := hd ▸ Int.dvd_trans (Int.gcd_dvd_left ..) (Int.gcd_dvd_right ..)
  have d3 : d ∣ r.c := hd ▸ Int.gcd_dvd_right ..
  have d0 : 1 ≤ d := by
    rcases Int.lt_or_le d 1 with h1 | h1
    · have : d = 0 := by omega
      rw [this] at d1
      have := Int.zero_dvd.1 d1
      omega
    · exact h1
  obtain ⟨x, y, _, _, _, _, c1⟩ := choice pf d0
  obtain ⟨z, t, _, _, _, _, c2⟩ := choice pg d0
  obtain ⟨X, Y, e⟩ := c.value hf hg hh x y z t
  have c3 := Cp.mul' c1 c2
  rw [e] at c3
  have e2 := lk.back.like X Y
  rw [← e2] at c3
  have c4 : d ∣ r.at (M.s * X + -M.q * Y) (-M.r * X + M.p * Y) := by
    unfold Qf.at
    exact Int.dvd_add (Int.dvd_add (Int.dvd_trans d1 (Int.dvd_mul_left ..)) (Int.dvd_trans d2 (Int.dvd_mul_left ..))) (Int.dvd_trans d3 (Int.dvd_mul_left ..))
  have c5 : Cp d d := (Cp.of_dvd c3.symm c4)
  have := cp_pos_one c5 d0
  omega

theorem two_half {a b s : Int} (h : a = 2 * b + s) : (a - s) / 2 = b := by omega

theorem comp_gen {f g : Qf} {k l e A B S u v w L q : Int} (f1 : f.b = 2 * k + s) (f2 : f.a * f.c = k * k + s * k - n) (g1 : g.b = 2 * l + s) (g2 : g.a * g.c = l * l + s * l - n)
    (he : e ≠ 0) (hA : f.a = e * A) (hB : g.a = e * B) (hS : k + l + s = e * S) (hu : u * A + v * B + w * S = 1) (hL : v * (k - l) - w * g.c = A * q + L) :
    (∃ t1, k - (l + B * L) = A * t1) ∧ (∃ t3, g.c + S * L = A * t3) := by
  have e1 : e * (A * f.c - B * g.c) = e * ((k - l) * S) := by
    have : f.a * f.c - g.a * g.c = (k - l) * (k + l + s) := by rw [f2, g2]; grind
    rw [hA, hB, hS] at this
    grind
  have e2 : A * f.c - B * g.c = (k - l) * S := Int.eq_of_mul_eq_mul_left he e1
  have e3 : L = v * (k - l) - w * g.c - A * q := by omega
  clear e1 f1 f2 g1 g2 hA hB hS hL
  constructor
  · refine ⟨u * (k - l) + w * f.c + B * q, ?_⟩
    subst e3
    have h1 : (k - l) * (u * A + v * B + w * S) = k - l := by rw [hu]; omega
    have h2 : w * (A * f.c - B * g.c) = w * ((k - l) * S) := by rw [e2]
    clear e2 hu
    grind
  · refine ⟨u * g.c + v * f.c - S * q, ?_⟩
    subst e3
    have h1 : g.c * (u * A + v * B + w * S) = g.c := by rw [hu]; omega
    have h2 : v * (A * f.c - B * g.c) = v * ((k - l) * S) := by rw [e2]
    clear e2 hu
    grind

theorem comp_co {f g h : Qf} {k l e A B S u v w L q : Int} (hf : Fk s n f k) (hg : Fk s n g l) (pf : Pm f) (he : e ≠ 0) (hA : f.a = e * A) (hB : g.a = e * B) (hS : k + l + s = e * S) (hu : u * A + v * B + w * S = 1)
    (hL : v * (k - l) - w * g.c = A * q + L) (ha : h.a = A * B) : Co s n f g h k l (l + B * L) := by
  obtain ⟨⟨t1, h1⟩, ⟨t3, h3⟩⟩ := comp_gen hf.b hf.ac hg.b hg.ac he hA hB hS hu hL
  obtain ⟨w1, w2, w3, w4, hw⟩ := four_of (c2 := g.c) hf.b hA hS pf
  refine ⟨e, A, B, S, t1, -L, -t3, u, v, w, w1, w2, w3, w4, he, hA, hB, ha, hS, hu, by grind, h1, ?_, hw⟩
  have h4 := hg.ac
  rw [hB] at h4
  have h5 : e * B * (g.c + S * L) = e * B * (A * t3) := by rw [h3]
  have h6 : (k + l + s) * (l + B * L) = e * S * (l + B * L) := by rw [hS]
  have h7 : (k + l + s) * (B * L) = e * S * (B * L) := by rw [hS]
  clear h1 h3 hS hu hL hw hA hB
  grind


/-- The program's composition. -/
theorem comp_all {f g : Qf} (hf : 1 ≤ f.a) (hg : 1 ≤ g.a) (hde : g.disc = f.disc) (pf : Pm f) {e A B S u v w d2 L : Int} (he : 1 ≤ e) (hA : f.a = e * A) (hB : g.a = e * B) (hS : f.b + g.b = 2 * (e * S)) (hD : f.b - g.b = 2 * d2)
    (hu : u * A + v * B + w * S = 1) (hL : L = (v * d2 - w * g.c) % A) : ∃ c, A * c = e * g.c + L * (g.b + B * L) ∧ Qf.disc ⟨A * B, g.b + 2 * B * L, c⟩ = f.disc ∧
      ∀ s n : Int, (s = 0 ∨ s = 1) → f.disc = s * s + 4 * n → Co s n f g ⟨A * B, g.b + 2 * B * L, c⟩ ((f.b - s) / 2) ((g.b - s) / 2) ((g.b + 2 * B * L - s) / 2) := by
  have hq : v * d2 - w * g.c = A * ((v * d2 - w * g.c) / A) + L := by
    have := Int.emod_add_mul_ediv (v * d2 - w * g.c) A
    omega
  generalize (v * d2 - w * g.c) / A = q at hq
  clear hL
  have key : ∀ s n : Int, (s = 0 ∨ s = 1) → f.disc = s * s + 4 * n → ∃ k l, Fk s n f k ∧ Fk s n g l ∧ k = (f.b - s) / 2 ∧ l = (g.b - s) / 2 ∧ k - l = d2 ∧ k + l + s = e * S := fun s n hs hd => by
    have k1 := Fk.of (show 0 < f.a by omega) hs hd
    have k2 := Fk.of (show 0 < g.a by omega) hs (hde.trans hd)
    refine ⟨_, _, k1, k2, rfl, rfl, ?_, ?_⟩
    · have := k1.b; have := k2.b; omega
    · have := k1.b; have := k2.b; omega
  obtain ⟨s0, n0, hs0, hd0⟩ := disc_sn f
  obtain ⟨k, l, k1, k2, ek, el, e1, e2⟩ := key s0 n0 hs0 hd0
  rw [← e1] at hq
  obtain ⟨⟨t1, h1⟩, ⟨t3, h3⟩⟩ := comp_gen k1.b k1.ac k2.b k2.ac (by omega) hA hB e2 hu hq
  have hc : A * (e * t3 - L * t1) = e * g.c + L * (g.b + B * L) := by
    have x1 : A * (e * t3) = e * (g.c + S * L) := by rw [h3]; grind
    have x2 : A * (L * t1) = L * (k - (l + B * L)) := by rw [h1]; grind
    have x3 : (k + l + s0) * L = e * S * L := by rw [e2]
    have x4 := k2.b
    rw [Int.mul_sub, x1, x2, x4]
    clear x1 x2 h1 h3 e2 e1
    grind
  refine ⟨e * t3 - L * t1, hc, ?_, fun s n hs hd => ?_⟩
  · rw [← hde]
    unfold Qf.disc
    have : 4 * (A * B) * (e * t3 - L * t1) = 4 * B * (A * (e * t3 - L * t1)) := by grind
    simp only []
    rw [this, hc, hB]
    clear this hc
    grind
  · obtain ⟨k', l', k1', k2', ek', el', e1', e2'⟩ := key s n hs hd
    have e3 : (g.b + 2 * B * L - s) / 2 = l' + B * L := by
      refine two_half ?_
      rw [k2'.b]; grind
    rw [e3, ← ek', ← el']
    refine comp_co (q := q) k1' k2' pf (by omega) hA hB e2' hu ?_ rfl
    rw [e1', ← e1]; exact hq

/-- Its size. -/
theorem comp_bd {f g : Qf} (uf : f.upto 1000000) (ug : g.upto 1000000) (hf : 1 ≤ f.a) (hg : 1 ≤ g.a) (hd : f.disc < 0) {e A B L c : Int} (he : 1 ≤ e) (hA : f.a = e * A) (hB : g.a = e * B) (h0 : 0 ≤ L) (h1 : L < A) (hc : A * c = e * g.c + L * (g.b + B * L)) (hD : Qf.disc ⟨A * B, g.b + 2 * B * L, c⟩ = f.disc) :
    Qf.upto 4000000000000 ⟨A * B, g.b + 2 * B * L, c⟩ ∧ 1 ≤ A ∧ 1 ≤ B ∧ 1 ≤ A * B ∧ e ≤ 1000000 ∧ A ≤ 1000000 ∧ B ≤ 1000000 := by
  obtain ⟨_, a2, _, _, _, _⟩ := uf
  obtain ⟨_, b2, b3, b4, b5, b6⟩ := ug
  have p1 : 1 ≤ A := pos_of_mul he (by omega)
  have p2 : 1 ≤ B := pos_of_mul he (by omega)
  have le1 : ∀ {x y : Int}, 1 ≤ x → 1 ≤ y → y ≤ x * y := fun {x y} hx hy => by
    have := Int.mul_le_mul_of_nonneg_right hx (show 0 ≤ y by omega)
    omega
  have q1 : A ≤ 1000000 := by have := le1 he p1; omega
  have q2 : B ≤ 1000000 := by have := le1 he p2; omega
  have q3 : e ≤ 1000000 := by have := le1 p1 he; rw [Int.mul_comm] at this; omega
  have r1 := sq_bd (N := 1000000) (x := A) (y := B) (by omega) (by omega) (by omega) (by omega)
  have r2 : 1 ≤ A * B := by have := le1 p1 p2; omega
  have r3 := sq_bd (N := 1000000) (x := B) (y := L) (by omega) (by omega) (by omega) (by omega)
  have r3' : 0 ≤ B * L := Int.mul_nonneg (by omega) h0
  have e4 : 2 * B * L = 2 * (B * L) := Int.mul_assoc ..
  have r4 : 1 ≤ c := disc_c (f := ⟨A * B, g.b + 2 * B * L, c⟩) r2 (by rw [hD]; exact hd)
  have r5 : c ≤ 3000000000000 := by
    have x1 := sq_bd (N := 1000000) (x := e) (y := g.c) (by omega) (by omega) (by omega) (by omega)
    have x2 : L * (g.b + B * L) ≤ A * (1000000 + B * L) := by
      have y1 : L * (g.b + B * L) ≤ L * (1000000 + B * L) := Int.mul_le_mul_of_nonneg_left (by omega) h0
      have y2 : L * (1000000 + B * L) ≤ A * (1000000 + B * L) := Int.mul_le_mul_of_nonneg_right (by omega) (by omega)
      omega
    have x3 : A * c ≤ A * (1000000000000 + (1000000 + B * L)) := by
      rw [Int.mul_add A 1000000000000]
      have := le1 p1 (show (1 : Int) ≤ 1000000000000 by decide)
      omega
    have := Int.le_of_mul_le_mul_left x3 (by omega)
    omega
  refine ⟨⟨?_, ?_, ?_, ?_, ?_, ?_⟩, p1, p2, r2, q3, q1, q2⟩ <;> simp only [] <;> omega

/-- What is reduced of it is what f and g make. -/
theorem comp_cz {f g h r : Qf} {m : Mt} (hf : 1 ≤ f.a) (hg : 1 ≤ g.a) (hh : 1 ≤ h.a) (hr : 1 ≤ r.a) (hd : f.disc < 0) (hde : g.disc = f.disc) (hhd : h.disc = f.disc) (pf : Pm f) (pg : Pm g)
    (c : ∀ s n : Int, (s = 0 ∨ s = 1) → f.disc = s * s + 4 * n → Co s n f g h ((f.b - s) / 2) ((g.b - s) / 2) ((h.b - s) / 2)) (rd : Rd h r m) : Cz f g r ∧ Int.gcd (Int.gcd r.a r.b) r.c = 1 := by
  refine ⟨Cz.of (by omega) (by omega) (by omega) (by omega) (by omega) (by omega) hd hde rfl hde hhd (Lk.refl f) (Lk.refl g) rd c, ?_⟩
  obtain ⟨s, n, hs, e⟩ := disc_sn f
  exact (c s n hs e).pm (Fk.of (by omega) hs e) (Fk.of (by omega) hs (hde.trans e)) (Fk.of (by omega) hs (hhd.trans e)) pf pg (Lk.of rd) hr

/-- .. with Bezout's numbers as the program has them. -/
theorem bez_bd {a b u v G : Int} (ha : 1 ≤ a ∧ a ≤ 1000000) (hb : 1 ≤ b ∧ b ≤ 1000000) (hG : 1 ≤ G) (hl : u * a + v * b = G) (h0 : 0 ≤ u) (h1 : u ≤ b) (hGb : G ≤ b) : -1000000 ≤ v ∧ v ≤ 1000000 := by
  have x1 : 0 ≤ u * a := Int.mul_nonneg h0 (by omega)
  have x2 : u * a ≤ b * a := Int.mul_le_mul_of_nonneg_right h1 (by omega)
  have x3 : v * b ≤ 1 * b := by omega
  have x4 : -a * b ≤ v * b := by rw [Int.neg_mul, Int.mul_comm a b]; omega
  have x5 := Int.le_of_mul_le_mul_right x3 (by omega)
  have x6 := Int.le_of_mul_le_mul_right x4 (by omega)
  omega
theorem bez_bd2 {a b u v G : Int} (ha : -1000000 ≤ a ∧ a ≤ 1000000) (hb : 1 ≤ b ∧ b ≤ 1000000) (hG : 1 ≤ G) (hl : u * a + v * b = G) (h0 : 0 ≤ u) (h1 : u ≤ b) (hGb : G ≤ b) : -2000000 ≤ v ∧ v ≤ 2000000 := by
  have x1 : -(b * 1000000) ≤ u * a := by
    have y1 : u * (-1000000) ≤ u * a := Int.mul_le_mul_of_nonneg_left (by omega) h0
    omega
  have x2 : u * a ≤ b * 1000000 := by
    have y1 : u * a ≤ u * 1000000 := Int.mul_le_mul_of_nonneg_left (by omega) h0
    omega
  have x3 : v * b ≤ 2000000 * b := by omega
  have x4 : -2000000 * b ≤ v * b := by omega
  have x5 := Int.le_of_mul_le_mul_right x3 (by omega)
  have x6 := Int.le_of_mul_le_mul_right x4 (by omega)
  omega

end MQ
end Go.Proofs.Ytijkanilpblogae
end

section
/- The program: (turned).slide, (turned).swap. -/
set_option linter.unusedSimpArgs false
set_option linter.unusedVariables false
set_option maxRecDepth 100000
namespace Go.Proofs.Ytijkanilpblogae
open Go.RowKit

/-- A form and the numbers that lead to it. -/
def Tv (f : Qf) (m : Mt) : Value := .agg #[.int .i64 f.a, .int .i64 f.b, .int .i64 f.c, .int .i64 m.p, .int .i64 m.q, .int .i64 m.r, .int .i64 m.s]
/-- What is left of the numbers in 64 bits. -/
def Mt.w (m : Mt) : Mt := ⟨wrap64 m.p, wrap64 m.q, wrap64 m.r, wrap64 m.s⟩

theorem wrap64_neg (x : Int) : wrap64 (-wrap64 x) = wrap64 (-x) := by
  simp only [wrap64]; omega
theorem wrap64_mod (x : Int) : ∃ k, wrap64 x = x + 18446744073709551616 * k := by
  simp only [wrap64]
  exact ⟨-((x + 9223372036854775808) / 18446744073709551616), by omega⟩
theorem wrap64_cong {x y k : Int} (h : x = y + 18446744073709551616 * k) : wrap64 x = wrap64 y := by
  simp only [wrap64]; omega
theorem wrap64_step (q k p : Int) : wrap64 (wrap64 q + wrap64 (k * wrap64 p)) = wrap64 (q + k * p) := by
  obtain ⟨a, ha⟩ := wrap64_mod p
  obtain ⟨b, hb⟩ := wrap64_mod q
  obtain ⟨c, hc⟩ := wrap64_mod (k * wrap64 p)
  rw [hc, hb, ha]
  refine wrap64_cong (k := a * k + b + c) ?_
  grind
theorem wrap64_id {x : Int} (h : -9223372036854775808 ≤ x ∧ x ≤ 9223372036854775807) : wrap64 x = x := by
  simp only [wrap64]; omega

set_option maxHeartbeats 4000000 in
theorem swap_any (f : Qf) (M : Mt) (w : World) (h : f.upto 4000000000000) : Calls Try.prog 49 #[Tv f M.w] w fun e w' => e = .returned (Tv (swapF f) (swapM M).w) ∧ Below w.heap.size w w' := by
  obtain ⟨h1, h2, h3, h4, h5, h6⟩ := h
  unfold Tv swapF swapM Mt.w
  simp only []
  go_enter Try.func49, Try.ntmps49
  go_wp2
  go_region
  all_goals
    go_wp2
    refine bodyPost_ret (v := .agg #[.int .i64 f.c, .int .i64 (-f.b), .int .i64 f.a, .int .i64 (wrap64 M.q), .int .i64 (wrap64 (-M.p)), .int .i64 (wrap64 M.s), .int .i64 (wrap64 (-M.r))]) (by simp [results, Try.results49, go_sem, wrap64_neg]) rfl ⟨rfl, ?_⟩
    exact (Below.alloc (Below.alloc (Below.alloc (Below.alloc (Below.refl _ _) (Nat.le_refl _) _) (by simp) _) (by simp; omega) _) (by simp; omega) _).drew

theorem modLeft_int (a n : Int) (w : World) (ha : a.natAbs ≤ 4000000000000000000) (h0 : 1 ≤ n) (hn : n ≤ 1000000000000000000) :
    Calls Try.prog 29 #[.int .i64 a, .int .i64 n] w fun e w' => e = .returned (.int .i64 (a % n)) ∧ w' = w := by
  obtain ⟨m, rfl⟩ : ∃ m : Nat, n = m := ⟨n.toNat, by omega⟩
  exact left_any a m w ha (by omega) hn

set_option maxHeartbeats 4000000 in
theorem slide_any (f : Qf) (M : Mt) (w : World) (h : f.upto 4000000000000) (ha : 1 ≤ f.a) (hd : f.disc < 0) : Calls Try.prog 48 #[Tv f M.w] w fun e w' => e = .returned (Tv (slideF f) (slideM f M).w) ∧ Below w.heap.size w w' := by
  obtain ⟨s1, s2, s3⟩ := slide_b ha
  obtain ⟨s4, s5, s6⟩ := slide_c ha hd
  have s7 := slide_k (f := f)
  have s8 := slide_div ha
  have s9 := slide_half (f := f)
  have sA : (slideF f).a = f.a := rfl
  have s10 : slideK f * (2 * f.a) = (slideF f).b - f.b := by simp only [slideF]; grind
  obtain ⟨K, hK⟩ : ∃ K, slideK f = K := ⟨_, rfl⟩
  have hM : (slideM f M).w = ⟨wrap64 M.p, wrap64 (M.q + K * M.p), wrap64 M.r, wrap64 (M.s + K * M.r)⟩ := by rw [← hK]; rfl
  rw [hM]
  clear hM
  obtain ⟨b', hb⟩ : ∃ b', (slideF f).b = b' := ⟨_, rfl⟩
  obtain ⟨c', hc⟩ : ∃ c', (slideF f).c = c' := ⟨_, rfl⟩
  unfold Tv Mt.w
  rw [sA, hb, hc]
  rw [hK] at s7 s8 s9 s10
  rw [hb] at s1 s2 s3 s6 s7 s8 s9 s10
  rw [hc] at s4 s5 s7 s9
  clear hK hb hc sA hd
  obtain ⟨h1, h2, h3, h4, h5, h6⟩ := h
  obtain ⟨A, B, C⟩ := f
  simp only [] at *
  obtain ⟨R, hR⟩ : ∃ R, (A - B) % (2 * A) = R := ⟨_, rfl⟩
  have HL : Hid (∀ w, Calls Try.prog 29 #[.int .i64 (A - B), .int .i64 (2 * A)] w fun e w' => e = .returned (.int .i64 R) ∧ w' = w) := fun w => by rw [← hR]; exact modLeft_int _ _ w (by omega) (by omega) (by omega)
  have r1 := Int.emod_nonneg (A - B) (show 2 * A ≠ 0 by omega)
  have r2 := Int.emod_lt_of_pos (A - B) (show 0 < 2 * A by omega)
  rw [hR] at r1 r2 s1
  have e1 : A - R = b' := s1.symm
  have kb : -8000000000000 ≤ K ∧ K ≤ 8000000000000 := by
    have x1 : (K * (2 * A)).natAbs = K.natAbs * (2 * A).natAbs := Int.natAbs_mul ..
    have x2 : K.natAbs * 1 ≤ K.natAbs * (2 * A).natAbs := Nat.mul_le_mul_left _ (by omega)
    rw [s10] at x1
    omega
  obtain ⟨T, hT⟩ : ∃ T, K * (B + b') = T := ⟨_, rfl⟩
  rw [hT] at s7 s9
  obtain ⟨d, hd⟩ : ∃ d, d = c' - C := ⟨_, rfl⟩
  have e4 : T.tdiv 2 = d := by rw [hd]; exact s9
  have e5 : C + d = c' := by omega
  have t1 : ((2 * A : Int) == 0) = false := beq_eq_false_iff_ne.2 (by omega)
  have t2 : -8000000000000 ≤ T ∧ T ≤ 8000000000000 := by omega
  have t3 : -8000000000000 ≤ d ∧ d ≤ 8000000000000 := by omega
  have v1 : IntKind.i64.wrap (A - B) = A - B := by rw [IntKind.wrap_i64]; omega
  have v2 : IntKind.i64.wrap (2 * A) = 2 * A := by rw [IntKind.wrap_i64]; omega
  have v3 : IntKind.i64.wrap (A - R) = b' := by rw [IntKind.wrap_i64]; omega
  clear hR s1 s7 s9 s10 hd r1 r2 s6
  go_enter Try.func48, Try.ntmps48
  go_wp2
  go_region
  · generalize hW : World.drew _ = W
    have CF : Cl (w.heap.size+1+1) [.int .i64 A, .int .i64 B, .int .i64 C] 32 W := by rw [← hW]; first | exact ((cl_new0 _ _ _ _ (by simp)).alloc _).drew | exact (cl_new0 _ _ _ _ (by simp)).drew
    have CM : Cl (w.heap.size+1+1+1) [.int .i64 (wrap64 M.p), .int .i64 (wrap64 M.q), .int .i64 (wrap64 M.r), .int .i64 (wrap64 M.s)] 43 W := by rw [← hW]; first | exact ((cl_new0 _ _ _ _ (by simp)).alloc _).drew | exact (cl_new0 _ _ _ _ (by simp)).drew
    have CR : Cl (w.heap.size + 1) [.int .i64 0, .int .i64 0, .int .i64 0, .int .i64 0, .int .i64 0, .int .i64 0, .int .i64 0] 63 W := by rw [← hW]; exact (((cl_new0 _ _ _ _ (by simp)).alloc _).alloc _).drew
    have f0 : W.cell? ⟨(w.heap.size+1+1), 0, none⟩ = some (.int .i64 A) := CF.cell 0
    have f1 : W.cell? ⟨(w.heap.size+1+1), 1, none⟩ = some (.int .i64 B) := CF.cell 1
    have f2 : W.cell? ⟨(w.heap.size+1+1), 2, none⟩ = some (.int .i64 C) := CF.cell 2
    have f3 : W.frozen? ⟨(w.heap.size+1+1), 1, none⟩ = false := CF.frozen _
    have f4 : W.frozen? ⟨(w.heap.size+1+1), 2, none⟩ = false := CF.frozen _
    have f5 : (w.heap.size+1+1) < W.heap.size := CF.lt
    have m0 : W.cell? ⟨(w.heap.size+1+1+1), 0, none⟩ = some (.int .i64 (wrap64 M.p)) := CM.cell 0
    have m1 : W.cell? ⟨(w.heap.size+1+1+1), 1, none⟩ = some (.int .i64 (wrap64 M.q)) := CM.cell 1
    have m2 : W.cell? ⟨(w.heap.size+1+1+1), 2, none⟩ = some (.int .i64 (wrap64 M.r)) := CM.cell 2
    have m3 : W.cell? ⟨(w.heap.size+1+1+1), 3, none⟩ = some (.int .i64 (wrap64 M.s)) := CM.cell 3
    have q0 : W.cell? ⟨w.heap.size + 1, 0, none⟩ = some (.int .i64 0) := CR.cell 0
    have q1 : W.cell? ⟨w.heap.size + 1, 1, none⟩ = some (.int .i64 0) := CR.cell 1
    have q2 : W.cell? ⟨w.heap.size + 1, 2, none⟩ = some (.int .i64 0) := CR.cell 2
    have q3 : W.cell? ⟨w.heap.size + 1, 3, none⟩ = some (.int .i64 0) := CR.cell 3
    have q4 : W.cell? ⟨w.heap.size + 1, 4, none⟩ = some (.int .i64 0) := CR.cell 4
    have q5 : W.cell? ⟨w.heap.size + 1, 5, none⟩ = some (.int .i64 0) := CR.cell 5
    have q6 : W.cell? ⟨w.heap.size + 1, 6, none⟩ = some (.int .i64 0) := CR.cell 6
    have z0 : W.frozen? ⟨w.heap.size + 1, 0, none⟩ = false := CR.frozen _
    have z1 : W.frozen? ⟨w.heap.size + 1, 1, none⟩ = false := CR.frozen _
    have z2 : W.frozen? ⟨w.heap.size + 1, 2, none⟩ = false := CR.frozen _
    have z3 : W.frozen? ⟨w.heap.size + 1, 3, none⟩ = false := CR.frozen _
    have z4 : W.frozen? ⟨w.heap.size + 1, 4, none⟩ = false := CR.frozen _
    have z5 : W.frozen? ⟨w.heap.size + 1, 5, none⟩ = false := CR.frozen _
    have z6 : W.frozen? ⟨w.heap.size + 1, 6, none⟩ = false := CR.frozen _
    have z7 : w.heap.size + 1 < W.heap.size := CR.lt
    have HK : Hid (Below w.heap.size w W) := by show Below _ _ _; rw [← hW]; exact (Below.alloc (Below.alloc (Below.alloc (Below.alloc (Below.refl _ _) (Nat.le_refl _) _) (by simp) _) (by simp; omega) _) (by simp; omega) _).drew
    clear hW CF CM CR
    go_wp2_with fail
    go_quiet ((go_at_call 29; exact Calls.quiet_of_same (HL.out _)))
    go_wp2
    refine bodyPost_ret (v := .agg #[.int .i64 A, .int .i64 b', .int .i64 c', .int .i64 (wrap64 M.p), .int .i64 (wrap64 (M.q + K * M.p)), .int .i64 (wrap64 M.r), .int .i64 (wrap64 (M.s + K * M.r))]) (by simp [results, Try.results48, go_sem, wrap64_step, q0, q1, q2, q3, q4, q5, q6, z7]) rfl ⟨rfl, ?_⟩
    iterate 9 refine Below.setCell ?_ (by first | (show w.heap.size ≤ w.heap.size + 1; omega) | (show w.heap.size ≤ w.heap.size + 1 + 1; omega) | (show w.heap.size ≤ w.heap.size + 1 + 1 + 1; omega)) _
    exact below_drewN' HK.out
  · generalize hW : World.drew _ = W
    have CF : Cl (w.heap.size+1+1+1) [.int .i64 A, .int .i64 B, .int .i64 C] 32 W := by rw [← hW]; first | exact ((cl_new0 _ _ _ _ (by simp)).alloc _).drew | exact (cl_new0 _ _ _ _ (by simp)).drew
    have CM : Cl (w.heap.size+1+1) [.int .i64 (wrap64 M.p), .int .i64 (wrap64 M.q), .int .i64 (wrap64 M.r), .int .i64 (wrap64 M.s)] 43 W := by rw [← hW]; first | exact ((cl_new0 _ _ _ _ (by simp)).alloc _).drew | exact (cl_new0 _ _ _ _ (by simp)).drew
    have CR : Cl (w.heap.size + 1) [.int .i64 0, .int .i64 0, .int .i64 0, .int .i64 0, .int .i64 0, .int .i64 0, .int .i64 0] 63 W := by rw [← hW]; exact (((cl_new0 _ _ _ _ (by simp)).alloc _).alloc _).drew
    have f0 : W.cell? ⟨(w.heap.size+1+1+1), 0, none⟩ = some (.int .i64 A) := CF.cell 0
    have f1 : W.cell? ⟨(w.heap.size+1+1+1), 1, none⟩ = some (.int .i64 B) := CF.cell 1
    have f2 : W.cell? ⟨(w.heap.size+1+1+1), 2, none⟩ = some (.int .i64 C) := CF.cell 2
    have f3 : W.frozen? ⟨(w.heap.size+1+1+1), 1, none⟩ = false := CF.frozen _
    have f4 : W.frozen? ⟨(w.heap.size+1+1+1), 2, none⟩ = false := CF.frozen _
    have f5 : (w.heap.size+1+1+1) < W.heap.size := CF.lt
    have m0 : W.cell? ⟨(w.heap.size+1+1), 0, none⟩ = some (.int .i64 (wrap64 M.p)) := CM.cell 0
    have m1 : W.cell? ⟨(w.heap.size+1+1), 1, none⟩ = some (.int .i64 (wrap64 M.q)) := CM.cell 1
    have m2 : W.cell? ⟨(w.heap.size+1+1), 2, none⟩ = some (.int .i64 (wrap64 M.r)) := CM.cell 2
    have m3 : W.cell? ⟨(w.heap.size+1+1), 3, none⟩ = some (.int .i64 (wrap64 M.s)) := CM.cell 3
    have q0 : W.cell? ⟨w.heap.size + 1, 0, none⟩ = some (.int .i64 0) := CR.cell 0
    have q1 : W.cell? ⟨w.heap.size + 1, 1, none⟩ = some (.int .i64 0) := CR.cell 1
    have q2 : W.cell? ⟨w.heap.size + 1, 2, none⟩ = some (.int .i64 0) := CR.cell 2
    have q3 : W.cell? ⟨w.heap.size + 1, 3, none⟩ = some (.int .i64 0) := CR.cell 3
    have q4 : W.cell? ⟨w.heap.size + 1, 4, none⟩ = some (.int .i64 0) := CR.cell 4
    have q5 : W.cell? ⟨w.heap.size + 1, 5, none⟩ = some (.int .i64 0) := CR.cell 5
    have q6 : W.cell? ⟨w.heap.size + 1, 6, none⟩ = some (.int .i64 0) := CR.cell 6
    have z0 : W.frozen? ⟨w.heap.size + 1, 0, none⟩ = false := CR.frozen _
    have z1 : W.frozen? ⟨w.heap.size + 1, 1, none⟩ = false := CR.frozen _
    have z2 : W.frozen? ⟨w.heap.size + 1, 2, none⟩ = false := CR.frozen _
    have z3 : W.frozen? ⟨w.heap.size + 1, 3, none⟩ = false := CR.frozen _
    have z4 : W.frozen? ⟨w.heap.size + 1, 4, none⟩ = false := CR.frozen _
    have z5 : W.frozen? ⟨w.heap.size + 1, 5, none⟩ = false := CR.frozen _
    have z6 : W.frozen? ⟨w.heap.size + 1, 6, none⟩ = false := CR.frozen _
    have z7 : w.heap.size + 1 < W.heap.size := CR.lt
    have HK : Hid (Below w.heap.size w W) := by show Below _ _ _; rw [← hW]; exact (Below.alloc (Below.alloc (Below.alloc (Below.alloc (Below.refl _ _) (Nat.le_refl _) _) (by simp) _) (by simp; omega) _) (by simp; omega) _).drew
    clear hW CF CM CR
    go_wp2_with fail
    go_quiet ((go_at_call 29; exact Calls.quiet_of_same (HL.out _)))
    go_wp2
    refine bodyPost_ret (v := .agg #[.int .i64 A, .int .i64 b', .int .i64 c', .int .i64 (wrap64 M.p), .int .i64 (wrap64 (M.q + K * M.p)), .int .i64 (wrap64 M.r), .int .i64 (wrap64 (M.s + K * M.r))]) (by simp [results, Try.results48, go_sem, wrap64_step, q0, q1, q2, q3, q4, q5, q6, z7]) rfl ⟨rfl, ?_⟩
    iterate 9 refine Below.setCell ?_ (by first | (show w.heap.size ≤ w.heap.size + 1; omega) | (show w.heap.size ≤ w.heap.size + 1 + 1; omega) | (show w.heap.size ≤ w.heap.size + 1 + 1 + 1; omega)) _
    exact below_drewN' HK.out
end Go.Proofs.Ytijkanilpblogae
end

section
/- The program: quad.reduce and Reduce. -/
set_option linter.unusedSimpArgs false
set_option linter.unusedVariables false
set_option maxRecDepth 100000
namespace Go.Proofs.Ytijkanilpblogae
open Go.RowKit

/-- On the way: a form that is like f, slid. -/
structure Rs (f g : Qf) (M : Mt) : Prop where
  lk : MQ.Lk f g M
  a : 1 ≤ g.a
  up : g.upto 4000000000000
  disc : g.disc = f.disc
  sl : slidB g
theorem Rs.start {f : Qf} (h : f.upto 4000000000000) (ha : 1 ≤ f.a) (hd : f.disc < 0) : Rs f (slideF f) (slideM f ⟨1, 0, 0, 1⟩) := by
  obtain ⟨h1, h2, h3, h4, h5, h6⟩ := h
  obtain ⟨s1, s2, s3⟩ := slide_b ha
  obtain ⟨s4, s5, s6⟩ := slide_c ha hd
  have sA : (slideF f).a = f.a := rfl
  exact ⟨slide_lk (MQ.Lk.refl f), by rw [sA]; exact ha, ⟨by omega, by omega, by omega, by omega, by omega, by omega⟩, slide_disc f, ⟨by omega, by omega⟩⟩
theorem Rs.next {f g : Qf} {M : Mt} (r : Rs f g M) (hd : f.disc < 0) : Rs f (slideF (swapF g)) (slideM (swapF g) (swapM M)) := by
  obtain ⟨h1, h2, h3, h4, h5, h6⟩ := r.up
  have hc := disc_c r.a (by rw [r.disc]; exact hd)
  have hd' : (swapF g).disc < 0 := by rw [swap_disc, r.disc]; exact hd
  have ha' : 1 ≤ (swapF g).a := hc
  obtain ⟨s1, s2, s3⟩ := slide_b ha'
  obtain ⟨s4, s5, s6⟩ := slide_c ha' hd'
  have e1 : (swapF g).a = g.c := rfl
  have e2 : (swapF g).c = g.a := rfl
  have e4 : (slideF (swapF g)).a = g.c := rfl
  exact ⟨slide_lk (swap_lk r.lk), by rw [e4]; exact hc, ⟨by omega, by omega, by omega, by omega, by omega, by omega⟩, by rw [slide_disc, swap_disc, r.disc], ⟨by omega, by omega⟩⟩
theorem swap_up {g : Qf} (h : g.upto 4000000000000) : (swapF g).upto 4000000000000 := by
  obtain ⟨h1, h2, h3, h4, h5, h6⟩ := h
  exact ⟨h5, h6, by show -4000000000000 ≤ -g.b; omega, by show -g.b ≤ 4000000000000; omega, h1, h2⟩

abbrev l7 (g : Qf) (m : Mt) : List Value := [.int .i64 g.a, .int .i64 g.b, .int .i64 g.c, .int .i64 m.p, .int .i64 m.q, .int .i64 m.r, .int .i64 m.s]
/-- The memory of the walk. -/
structure Tm (h b : Nat) (g : Qf) (m : Mt) (w W : World) : Prop where
  t : Cl b (l7 g m) 63 W
  o : Cl (h + 1) [.int .i64 0, .int .i64 0, .int .i64 0, .int .i64 0, .int .i64 0, .int .i64 0, .int .i64 0] 63 W
  ne : h + 1 < b
  k : Below h w W
theorem Tm.below {h b : Nat} {g : Qf} {m : Mt} {w W W' : World} (x : Tm h b g m w W) (c : Below W.heap.size W W') : Tm h b g m w W' :=
  ⟨x.t.below c, x.o.below c, x.ne, x.k.trans (c.mono (by have := x.o.lt; omega))⟩
theorem Tm.set {h b : Nat} {g : Qf} {m : Mt} {w W : World} (x : Tm h b g m w W) (g' : Qf) (m' : Mt) :
    Tm h b g' m' w (((((((W.setCell ⟨b, 0, none⟩ (.int .i64 g'.a)).setCell ⟨b, 1, none⟩ (.int .i64 g'.b)).setCell ⟨b, 2, none⟩ (.int .i64 g'.c)).setCell ⟨b, 3, none⟩ (.int .i64 m'.p)).setCell ⟨b, 4, none⟩ (.int .i64 m'.q)).setCell ⟨b, 5, none⟩ (.int .i64 m'.r)).setCell ⟨b, 6, none⟩ (.int .i64 m'.s)) := by
  have hn := x.ne
  refine ⟨((((((x.t.set 0 _).set 1 _).set 2 _).set 3 _).set 4 _).set 5 _).set 6 _, ?_, hn, ?_⟩
  · exact (((((((x.o.other (by show h + 1 ≠ b; omega) _).other (by show h + 1 ≠ b; omega) _).other (by show h + 1 ≠ b; omega) _).other (by show h + 1 ≠ b; omega) _).other (by show h + 1 ≠ b; omega) _).other (by show h + 1 ≠ b; omega) _).other (by show h + 1 ≠ b; omega) _)
  · have := x.k
    iterate 7 refine Below.setCell ?_ (by show h ≤ b; omega) _
    exact this

set_option maxHeartbeats 4000000 in
theorem reduce_any (f : Qf) (w : World) (h : f.upto 4000000000000) (ha : 1 ≤ f.a) (hd : f.disc < 0) :
    Calls Try.prog 33 #[f.v] w fun e w' => (∃ g M, e = .returned (Tv g M.w) ∧ Rd f g M ∧ 1 ≤ g.a) ∧ Below w.heap.size w w' := by
  have HD : Hid (f.disc < 0) := hd
  have HR0 : Hid (Rs f (slideF f) (slideM f ⟨1, 0, 0, 1⟩)) := Rs.start h ha hd
  have HS0 : Hid (∀ w, Calls Try.prog 48 #[Tv f ⟨1, 0, 0, 1⟩] w fun e w' => e = .returned (Tv (slideF f) (slideM f ⟨1, 0, 0, 1⟩).w) ∧ Below w.heap.size w w') := fun w => by
    have k := slide_any f ⟨1, 0, 0, 1⟩ w h ha hd
    rw [show (⟨1, 0, 0, 1⟩ : Mt).w = ⟨1, 0, 0, 1⟩ by unfold Mt.w; simp only [Mt.mk.injEq]; refine ⟨wrap64_id (by decide), wrap64_id (by decide), wrap64_id (by decide), wrap64_id (by decide)⟩] at k
    exact k
  obtain ⟨g0, hg0⟩ : ∃ g0, slideF f = g0 := ⟨_, rfl⟩
  obtain ⟨M0, hM0⟩ : ∃ M0, slideM f ⟨1, 0, 0, 1⟩ = M0 := ⟨_, rfl⟩
  rw [hg0, hM0] at HR0 HS0
  clear hg0 hM0 h ha hd
  unfold Tv at HS0
  unfold Qf.v
  go_enter Try.func33, Try.ntmps33
  go_wp2_with fail
  obtain ⟨W1, hW1⟩ : ∃ W1, W1 = (w.alloc (.cells #[.int .i64 f.a, .int .i64 f.b, .int .i64 f.c] 32)).alloc (.cells #[.int .i64 0, .int .i64 0, .int .i64 0, .int .i64 0, .int .i64 0, .int .i64 0, .int .i64 0] 63) := ⟨_, rfl⟩
  have C1 : Cl (w.heap.size + 1) [.int .i64 0, .int .i64 0, .int .i64 0, .int .i64 0, .int .i64 0, .int .i64 0, .int .i64 0] 63 W1 := by rw [hW1]; exact cl_new0 _ _ _ _ (by simp)
  have K1 : Below w.heap.size w W1 := by rw [hW1]; exact Below.alloc (Below.alloc (Below.refl _ _) (Nat.le_refl _) _) (by simp) _
  rw [← hW1]
  clear hW1
  refine (HS0.out _).mono ?_
  rintro e w1 ⟨rfl, k1⟩
  have HT0 : Hid (Tm w.heap.size w1.heap.size g0 M0.w w (w1.alloc (.cells #[.int .i64 g0.a, .int .i64 g0.b, .int .i64 g0.c, .int .i64 M0.w.p, .int .i64 M0.w.q, .int .i64 M0.w.r, .int .i64 M0.w.s] 63))) :=
    ⟨Cl.new (l7 g0 M0.w) _ w1, (C1.below k1).alloc _, Nat.lt_of_lt_of_le C1.lt k1.size, (K1.trans (k1.mono K1.size)).trans ((al1 w1 _).mono (K1.trans (k1.mono K1.size)).size)⟩
  clear C1 K1 k1 HS0
  go_wp2
  go_loopg [8] (mea g0) (fun gk _ wx => ∃ (g : Qf) (m : Mt), Hid (Rs f g m ∧ gk = mea g ∧ Tm w.heap.size w1.heap.size g m.w w wx))
  case atStart => exact ⟨g0, M0, HR0.out, rfl, HT0.out⟩
  case round =>
    clear HT0 HR0
    obtain ⟨g, m, HH⟩ := hrel
    have HR : Hid (Rs f g m) := HH.out.1
    have HG : Hid (gk = mea g) := HH.out.2.1
    have HF : Hid (Tm w.heap.size w1.heap.size g m.w w wr) := HH.out.2.2
    have HRed : Hid (∀ w, Calls Try.prog 45 #[g.v] w fun e w' => e = .returned (.bool g.redB) ∧ Below w.heap.size w w') := fun w => isReduced_any g w HR.out.up
    unfold Qf.v at HRed
    have c0 := HF.out.t.cell 0
    have c1 := HF.out.t.cell 1
    have c2 := HF.out.t.cell 2
    simp at c0 c1 c2
    clear HH
    cases hrb : g.redB
    · rw [hrb] at HRed
      have HRb : Hid (g.redB = false) := hrb
      have HSw : Hid (∀ w, Calls Try.prog 49 #[Tv g m.w] w fun e w' => e = .returned (Tv (swapF g) (swapM m).w) ∧ Below w.heap.size w w') := fun w => swap_any g m w HR.out.up
      have HSl : Hid (∀ w, Calls Try.prog 48 #[Tv (swapF g) (swapM m).w] w fun e w' => e = .returned (Tv (slideF (swapF g)) (slideM (swapF g) (swapM m)).w) ∧ Below w.heap.size w w') := fun w =>
        slide_any (swapF g) (swapM m) w (swap_up HR.out.up) (disc_c HR.out.a (by rw [HR.out.disc]; exact HD.out)) (by rw [swap_disc, HR.out.disc]; exact HD.out)
      have HN : Hid (Rs f (slideF (swapF g)) (slideM (swapF g) (swapM m)) ∧ mea (slideF (swapF g)) < gk) := ⟨HR.out.next HD.out, by rw [HG.out]; exact mea_less HR.out.a (by rw [HR.out.disc]; exact HD.out) HR.out.sl HRb.out⟩
      obtain ⟨g1, hg1⟩ : ∃ g1, slideF (swapF g) = g1 := ⟨_, rfl⟩
      obtain ⟨m1, hm1⟩ : ∃ m1, slideM (swapF g) (swapM m) = m1 := ⟨_, rfl⟩
      obtain ⟨gs, hgs⟩ : ∃ g1, swapF g = g1 := ⟨_, rfl⟩
      obtain ⟨ms, hms⟩ : ∃ m1, (swapM m).w = m1 := ⟨_, rfl⟩
      rw [hg1, hm1] at HN HSl
      rw [hgs, hms] at HSl HSw
      unfold Tv at HSw HSl
      clear hrb hg1 hm1 hgs hms
      go_wp2_with fail
      refine (HRed.out _).mono ?_
      rintro e w2 ⟨rfl, k1⟩
      have HF1 : Hid (Tm w.heap.size w1.heap.size g m.w w w2) := HF.out.below k1
      clear c0 c1 c2 k1 HF
      have c0 := HF1.out.t.cell 0
      have c1 := HF1.out.t.cell 1
      have c2 := HF1.out.t.cell 2
      have c3 := HF1.out.t.cell 3
      have c4 := HF1.out.t.cell 4
      have c5 := HF1.out.t.cell 5
      have c6 := HF1.out.t.cell 6
      simp at c0 c1 c2 c3 c4 c5 c6
      go_wp2_with fail
      refine (HSw.out _).mono ?_
      rintro e w3 ⟨rfl, k1⟩
      have HF2 : Hid (Tm w.heap.size w1.heap.size g m.w w w3) := HF1.out.below k1
      clear c0 c1 c2 c3 c4 c5 c6 k1 HF1
      go_wp2_with fail
      refine (HSl.out _).mono ?_
      rintro e w4 ⟨rfl, k1⟩
      have HF3 : Hid (Tm w.heap.size w1.heap.size g m.w w w4) := HF2.out.below k1
      clear k1 HF2
      have c0 := HF3.out.t.cell 0
      have c1 := HF3.out.t.cell 1
      have c2 := HF3.out.t.cell 2
      have c3 := HF3.out.t.cell 3
      have c4 := HF3.out.t.cell 4
      have c5 := HF3.out.t.cell 5
      have c6 := HF3.out.t.cell 6
      have d0 := HF3.out.t.frozen 0
      have d1 := HF3.out.t.frozen 1
      have d2 := HF3.out.t.frozen 2
      have d3 := HF3.out.t.frozen 3
      have d4 := HF3.out.t.frozen 4
      have d5 := HF3.out.t.frozen 5
      have d6 := HF3.out.t.frozen 6
      simp at c0 c1 c2 c3 c4 c5 c6
      go_wp2
      go_roundg (mea g1)
      case rel => exact ⟨g1, m1, HN.out.1, rfl, HF3.out.set g1 m1.w⟩
      case measure => exact HN.out.2
    · rw [hrb] at HRed
      have HRd : Hid (Rd f g m ∧ 1 ≤ g.a) := ⟨⟨hrb, HR.out.lk.det, HR.out.lk.like⟩, HR.out.a⟩
      clear hrb
      go_wp2_with fail
      refine (HRed.out _).mono ?_
      rintro e w2 ⟨rfl, k1⟩
      have F1 := HF.out.below k1
      have HK1 : Hid (Below w.heap.size w w2) := F1.k
      clear c0 c1 c2 k1 HF
      have c0 := F1.t.cell 0
      have c1 := F1.t.cell 1
      have c2 := F1.t.cell 2
      have c3 := F1.t.cell 3
      have c4 := F1.t.cell 4
      have c5 := F1.t.cell 5
      have c6 := F1.t.cell 6
      have o0 := F1.o.cell 0
      have o1 := F1.o.cell 1
      have o2 := F1.o.cell 2
      have o3 := F1.o.cell 3
      have o4 := F1.o.cell 4
      have o5 := F1.o.cell 5
      have o6 := F1.o.cell 6
      have p0 := F1.o.frozen 0
      have p1 := F1.o.frozen 1
      have p2 := F1.o.frozen 2
      have p3 := F1.o.frozen 3
      have p4 := F1.o.frozen 4
      have p5 := F1.o.frozen 5
      have p6 := F1.o.frozen 6
      have p7 := F1.o.lt
      simp at c0 c1 c2 c3 c4 c5 c6 o0 o1 o2 o3 o4 o5 o6
      clear F1
      go_wp2
      refine bodyPost_ret (v := Tv g m.w) (by simp [Tv, results, Try.results33, go_sem, o0, o1, o2, o3, o4, o5, o6, p7]) rfl ⟨⟨g, m, rfl, HRd.out⟩, ?_⟩
      iterate 7 refine Below.setCell ?_ (by show w.heap.size ≤ w.heap.size + 1; omega) _
      exact HK1.out

end Go.Proofs.Ytijkanilpblogae
end

section
/- The program: Reduce. -/
set_option linter.unusedSimpArgs false
set_option linter.unusedVariables false
set_option maxRecDepth 100000
namespace Go.Proofs.Ytijkanilpblogae
open Go.RowKit

/-- The memory of the walk: the form, and where the results go. -/
structure Ro (h : Nat) (f : Qf) (w W : World) : Prop where
  f : Cl h f.l 32 W
  g : Cl (h + 1) [.int .i64 0, .int .i64 0, .int .i64 0] 32 W
  m : Cl (h + 1 + 1) [.int .i64 0, .int .i64 0, .int .i64 0, .int .i64 0] 43 W
  e : Sv (h + 1 + 1 + 1) 0 0 W
  k : Below h w W
theorem Ro.below {h : Nat} {f : Qf} {w W W' : World} (x : Ro h f w W) (c : Below W.heap.size W W') : Ro h f w W' :=
  ⟨x.f.below c, x.g.below c, x.m.below c, x.e.below c, x.k.trans (c.mono (Nat.le_of_lt x.f.lt))⟩

theorem Mt.w_id {M : Mt} (h : M.upto 100000000) : M.w = M := by
  obtain ⟨h1, h2, h3, h4⟩ := h
  obtain ⟨p, q, r, s⟩ := M
  simp only [] at h1 h2 h3 h4
  unfold Mt.w
  simp only [Mt.mk.injEq]
  exact ⟨wrap64_id (by omega), wrap64_id (by omega), wrap64_id (by omega), wrap64_id (by omega)⟩

theorem up_up {f : Qf} (h : f.upto 1000000) : f.upto 4000000000000 := by
  obtain ⟨h1, h2, h3, h4, h5, h6⟩ := h
  exact ⟨by omega, by omega, by omega, by omega, by omega, by omega⟩

/-- .. of a form without a fault. -/
theorem reduce_ok (f : Qf) (w : World) (h : ffault f = (0, 0)) :
    Calls Try.prog 33 #[f.v] w fun e w' => ∃ g m, e = .returned (Tv g m) ∧ Rd f g m ∧ Below w.heap.size w w' := by
  obtain ⟨h1, h2, h3, h4⟩ := ffault_ok h
  refine (reduce_any f w (up_up h1) h2 h3).mono ?_
  rintro e w' ⟨⟨g, M, rfl, hr, _⟩, k⟩
  exact ⟨g, M, by rw [Mt.w_id (hr.small h)], hr, k⟩

set_option maxHeartbeats 4000000 in
theorem Reduce_any (f : Qf) (w : World) :
    Calls Try.prog 20 #[f.v] w fun e w' => ∃ g m, e = .returned (.tuple #[g.v, m.v, ffv (ffault f)]) ∧ RedOut f g m ∧ Below w.heap.size w w' := by
  obtain ⟨c, d, hff⟩ : ∃ c d, ffault f = (c, d) := ⟨_, _, rfl⟩
  have HFF : Hid (ffault f = (c, d)) := hff
  have HC : Hid (∀ w, Calls Try.prog 31 #[f.v] w fun e w' => e = .returned (ffv (c, d)) ∧ Below w.heap.size w w') := fun w => by rw [← hff]; exact Check_any f w
  have HR : Hid (c = 0 → d = 0 → ∀ w, Calls Try.prog 33 #[f.v] w fun e w' => ∃ g m, e = .returned (Tv g m) ∧ Rd f g m ∧ Below w.heap.size w w') := fun e1 e2 w => reduce_ok f w (by rw [hff, e1, e2])
  rw [hff]
  clear hff
  unfold Qf.v at HC HR ⊢
  unfold ffv at HC ⊢
  go_enter Try.func20, Try.ntmps20
  go_wp2_with fail
  obtain ⟨W1, hW1⟩ : ∃ W1, W1 = (((w.alloc (.cells #[.int .i64 f.a, .int .i64 f.b, .int .i64 f.c] 32)).alloc (.cells #[.int .i64 0, .int .i64 0, .int .i64 0] 32)).alloc (.cells #[.int .i64 0, .int .i64 0, .int .i64 0, .int .i64 0] 43)).alloc (.cells #[.int .i64 0, .int .i64 0] 24) := ⟨_, rfl⟩
  have HO1 : Hid (Ro w.heap.size f w W1) := by
    show Ro _ _ _ _
    rw [hW1]
    exact ⟨(((Cl.new f.l _ w).alloc _).alloc _).alloc _, ((cl_new0 _ [.int .i64 0, .int .i64 0, .int .i64 0] _ _ (by simp)).alloc _).alloc _, (cl_new0 _ [.int .i64 0, .int .i64 0, .int .i64 0, .int .i64 0] _ _ (by simp)).alloc _, sv_new0 _ _ _ (by simp) _ _, Below.alloc (Below.alloc (Below.alloc (Below.alloc (Below.refl _ _) (Nat.le_refl _) _) (by simp) _) (by simp; omega) _) (by simp; omega) _⟩
  rw [← hW1]
  clear hW1
  refine (HC.out _).mono ?_
  rintro e w1 ⟨rfl, k1⟩
  have z9 : w.heap.size + 1 + 1 + 1 < w1.heap.size := ((HO1.out.below k1).e).lt
  have HO : Hid (Ro w.heap.size f w (w1.alloc (.cells #[.int .i64 c, .int .i64 d] 24))) := (HO1.out.below k1).below (al1 _ _)
  clear k1 HO1 HC
  rcases ffault_code HFF.out with ⟨rfl, rfl⟩ | hc
  · have c0 := HO.out.f.cell 0
    have c1 := HO.out.f.cell 1
    have c2 := HO.out.f.cell 2
    simp at c0 c1 c2
    go_wp2_with fail
    refine (HR.out trivial trivial _).mono ?_
    rintro e w2 ⟨g, m, rfl, hrd, k2⟩
    have HRd : Hid (Rd f g m) := hrd
    unfold Tv
    obtain ⟨W3, hW3⟩ : ∃ W3, W3 = w2.alloc (.cells #[.int .i64 g.a, .int .i64 g.b, .int .i64 g.c, .int .i64 m.p, .int .i64 m.q, .int .i64 m.r, .int .i64 m.s] 63) := ⟨_, rfl⟩
    have k3 : Below w2.heap.size w2 W3 := by rw [hW3]; exact al1 _ _
    have HO2 : Hid (Ro w.heap.size f w W3) := (HO.out.below k2).below k3
    have CT : Cl w2.heap.size (l7 g m) 63 W3 := by rw [hW3]; exact Cl.new (l7 g m) _ w2
    have t0 := CT.cell 0
    have t1 := CT.cell 1
    have t2 := CT.cell 2
    have t3 := CT.cell 3
    have t4 := CT.cell 4
    have t5 := CT.cell 5
    have t6 := CT.cell 6
    simp at t0 t1 t2 t3 t4 t5 t6
    clear c0 c1 c2 k2 k3 CT HO hrd
    have HO := HO2
    clear HO2
    have a0 := HO.out.g.cell 0
    have a1 := HO.out.g.cell 1
    have a2 := HO.out.g.cell 2
    have a3 := HO.out.g.frozen 0
    have a4 := HO.out.g.frozen 1
    have a5 := HO.out.g.frozen 2
    have a6 := HO.out.g.lt
    have b0 := HO.out.m.cell 0
    have b1 := HO.out.m.cell 1
    have b2 := HO.out.m.cell 2
    have b3 := HO.out.m.cell 3
    have b4 := HO.out.m.frozen 0
    have b5 := HO.out.m.frozen 1
    have b6 := HO.out.m.frozen 2
    have b7 := HO.out.m.frozen 3
    have b8 := HO.out.m.lt
    have r0 := HO.out.e.c0
    have r1 := HO.out.e.c1
    have r2 := HO.out.e.f0
    have r3 := HO.out.e.f1
    have r4 := HO.out.e.lt
    simp at a0 a1 a2 b0 b1 b2 b3
    rw [hW3] at t0 t1 t2 t3 t4 t5 t6 a0 a1 a2 a3 a4 a5 a6 b0 b1 b2 b3 b4 b5 b6 b7 b8 r0 r1 r2 r3 r4 HO
    go_wp2
    rw [← hW3] at *
    clear hW3
    go_region
    go_wp2
    refine bodyPost_ret (v := .tuple #[g.v, m.v, .agg #[.int .i64 0, .int .i64 0]]) (by simp [Qf.v, Mt.v, results, Try.results20, go_sem, a0, a1, a2, a6, b0, b1, b2, b3, b8, r0, r1, r4]) rfl ⟨g, m, rfl, ⟨fun h => absurd HFF.out h, fun _ => HRd.out⟩, ?_⟩
    refine Below.drew ?_
    iterate 9 refine Below.setCell ?_ (by first | (show w.heap.size ≤ w.heap.size + 1; omega) | (show w.heap.size ≤ w.heap.size + 1 + 1; omega) | (show w.heap.size ≤ w.heap.size + 1 + 1 + 1; omega)) _
    exact HO.out.k
  · have hcb : (c != 0) = true := by simpa using hc
    have HX : Hid (c ≠ 0) := hc
    clear hc
    obtain ⟨W3, hW3⟩ : ∃ W3, W3 = w1.alloc (.cells #[.int .i64 c, .int .i64 d] 24) := ⟨_, rfl⟩
    rw [← hW3] at HO
    have CE : Sv w1.heap.size c d W3 := by rw [hW3]; exact sv_new0 _ _ _ rfl _ _
    have e0 := CE.c0
    have e1 := CE.c1
    have a0 := HO.out.g.cell 0
    have a1 := HO.out.g.cell 1
    have a2 := HO.out.g.cell 2
    have a3 := HO.out.g.frozen 0
    have a4 := HO.out.g.frozen 1
    have a5 := HO.out.g.frozen 2
    have a6 := HO.out.g.lt
    have b0 := HO.out.m.cell 0
    have b1 := HO.out.m.cell 1
    have b2 := HO.out.m.cell 2
    have b3 := HO.out.m.cell 3
    have b4 := HO.out.m.frozen 0
    have b5 := HO.out.m.frozen 1
    have b6 := HO.out.m.frozen 2
    have b7 := HO.out.m.frozen 3
    have b8 := HO.out.m.lt
    have r0 := HO.out.e.c0
    have r1 := HO.out.e.c1
    have r2 := HO.out.e.f0
    have r3 := HO.out.e.f1
    have r4 := HO.out.e.lt
    simp at a0 a1 a2 b0 b1 b2 b3
    clear CE
    rw [hW3] at e0 e1 a0 a1 a2 a3 a4 a5 a6 b0 b1 b2 b3 b4 b5 b6 b7 b8 r0 r1 r2 r3 r4
    go_wp2_with fail
    rw [← hW3] at *
    clear hW3
    go_region
    go_wp2
    refine bodyPost_ret (v := .tuple #[Qf.v ⟨0, 0, 0⟩, Mt.v ⟨0, 0, 0, 0⟩, .agg #[.int .i64 c, .int .i64 d]]) (by simp [Qf.v, Mt.v, results, Try.results20, go_sem, a0, a1, a2, a6, b0, b1, b2, b3, b8, r0, r1, r4]) rfl ⟨⟨0, 0, 0⟩, ⟨0, 0, 0, 0⟩, rfl, ⟨fun _ => ⟨rfl, rfl⟩, fun h => ?_⟩, ?_⟩
    · rw [HFF.out] at h; simp at h; exact absurd h.1 HX.out
    refine Below.drew ?_
    iterate 9 refine Below.setCell ?_ (by first | (show w.heap.size ≤ w.heap.size + 1; omega) | (show w.heap.size ≤ w.heap.size + 1 + 1; omega) | (show w.heap.size ≤ w.heap.size + 1 + 1 + 1; omega)) _
    exact HO.out.k

end Go.Proofs.Ytijkanilpblogae
end

section
/- The program: quad.compose. -/
set_option linter.unusedSimpArgs false
set_option linter.unusedVariables false
set_option maxRecDepth 100000
namespace Go.Proofs.Ytijkanilpblogae
open Go.RowKit

/-- What compose answers. -/
structure Cmp (f g h : Qf) : Prop where
  up : h.upto 4000000000000
  a : 1 ≤ h.a
  disc : h.disc = f.disc
  co : ∀ s n : Int, (s = 0 ∨ s = 1) → f.disc = s * s + 4 * n → MQ.Co s n f g h ((f.b - s) / 2) ((g.b - s) / 2) ((h.b - s) / 2)

/-- Both Bs leave the same by 2. -/
theorem same_two {f g : Qf} (h : f.disc = g.disc) : ∃ H d2 : Int, f.b + g.b = 2 * H ∧ f.b - g.b = 2 * d2 := by
  obtain ⟨s, n, hs, e⟩ := MQ.disc_sn f
  have e2 : g.disc = s * s + 4 * n := by rw [← h]; exact e
  unfold Qf.disc at e e2
  have x1 : f.b % 2 = g.b % 2 := by
    have p : ∀ b : Int, b * b = 4 * ((b / 2) * (b / 2) + (b / 2) * (b % 2)) + (b % 2) * (b % 2) := fun b => by
      have := Int.emod_add_mul_ediv b 2
      generalize b / 2 = q at *
      generalize b % 2 = r at *
      subst this
      grind
    have p1 := p f.b
    have p2 := p g.b
    have r1 : f.b % 2 = 0 ∨ f.b % 2 = 1 := by omega
    have r2 : g.b % 2 = 0 ∨ g.b % 2 = 1 := by omega
    have m1 : 4 * f.a * f.c = 4 * (f.a * f.c) := Int.mul_assoc ..
    have m2 : 4 * g.a * g.c = 4 * (g.a * g.c) := Int.mul_assoc ..
    rcases r1 with r1 | r1 <;> rcases r2 with r2 | r2 <;> rw [r1] at p1 <;> rw [r2] at p2 <;> omega
  exact ⟨(f.b + g.b) / 2, (f.b - g.b) / 2, by omega, by omega⟩

/-- Bezout's numbers, as they are used. -/
structure Bz (f g : Qf) (H both x times e w more : Int) : Prop where
  b1 : 1 ≤ both ∧ both ≤ 1000000
  l1 : x * f.a + times * g.a = both
  t : -1000000 ≤ times ∧ times ≤ 1000000
  e1 : 1 ≤ e ∧ e ≤ 1000000
  l2 : w * H + more * both = e
  w1 : 0 ≤ w ∧ w ≤ 1000000
  m : -2000000 ≤ more ∧ more ≤ 2000000
  d1 : e ∣ H
  d2 : e ∣ f.a
  d3 : e ∣ g.a

theorem gcd_pos_right {a b : Int} (h : 1 ≤ b) : 1 ≤ (Int.gcd a b : Int) ∧ (Int.gcd a b : Int) ≤ b := by
  have h1 : (Int.gcd a b : Int) ∣ b := Int.gcd_dvd_right ..
  have h2 := Int.le_of_dvd (by omega) h1
  have h3 : Int.gcd a b ≠ 0 := fun h0 => by
    have := (Int.gcd_eq_zero_iff.1 h0).2
    omega
  omega
theorem bez_high {a b u v : Int} (hb : 1 ≤ b) (h : Bez a b u v) : 0 ≤ u ∧ u ≤ b := by
  have h1 := h.low (by omega)
  have h2 := h.high (by omega)
  have h3 : b.natAbs / Int.gcd a b ≤ b.natAbs := Nat.div_le_self _ _
  omega

theorem bz_of {f g : Qf} {H x times w more : Int} (fa : 1 ≤ f.a ∧ f.a ≤ 1000000) (ga : 1 ≤ g.a ∧ g.a ≤ 1000000) (hH : -1000000 ≤ H ∧ H ≤ 1000000) (h1 : Bez f.a g.a x times) (h2 : Bez H (Int.gcd f.a g.a) w more) :
    Bz f g H (Int.gcd f.a g.a) x times (Int.gcd H (Int.gcd f.a g.a)) w more := by
  have g1 := gcd_pos_right (a := f.a) ga.1
  have g2 := gcd_pos_right (a := H) (b := (Int.gcd f.a g.a : Int)) g1.1
  have x1 := bez_high ga.1 h1
  have x2 := bez_high g1.1 h2
  have d0 : (Int.gcd H (Int.gcd f.a g.a) : Int) ∣ (Int.gcd f.a g.a : Int) := Int.gcd_dvd_right ..
  refine ⟨⟨g1.1, by omega⟩, h1.lin, ?_, ⟨g2.1, by omega⟩, h2.lin, ⟨x2.1, by omega⟩, ?_, Int.gcd_dvd_left .., Int.dvd_trans d0 (Int.gcd_dvd_left ..), Int.dvd_trans d0 (Int.gcd_dvd_right ..)⟩
  · exact MQ.bez_bd fa ga g1.1 h1.lin x1.1 x1.2 g1.2
  · exact MQ.bez_bd2 hH ⟨g1.1, by omega⟩ g2.1 h2.lin x2.1 x2.2 g2.2

/-- .. and what is made of them. -/
theorem bz_cmp {f g : Qf} {H d2 both x times e w more A B L : Int} (hf : ffault f = (0, 0)) (hg : ffault g = (0, 0)) (hd : f.disc = g.disc) (hH : f.b + g.b = 2 * H) (h2 : f.b - g.b = 2 * d2) (z : Bz f g H both x times e w more)
    (hA : f.a = e * A) (hB : g.a = e * B) (hL : L = (times * more * d2 - w * g.c) % A) :
    ∃ c, (e * g.c + L * (g.b + B * L)).tdiv A = c ∧ Cmp f g ⟨A * B, g.b + 2 * B * L, c⟩ ∧ (1 ≤ A ∧ A ≤ 1000000) ∧ (1 ≤ B ∧ B ≤ 1000000) ∧ (0 ≤ L ∧ L < A) := by
  obtain ⟨uf, fa, fd, fg⟩ := ffault_ok hf
  obtain ⟨ug, ga, gd, gg⟩ := ffault_ok hg
  obtain ⟨S, hS⟩ := z.d1
  have p1 : 1 ≤ A := pos_of_mul z.e1.1 (by omega)
  have h0 : 0 ≤ L ∧ L < A := by rw [hL]; exact ⟨Int.emod_nonneg _ (by omega), Int.emod_lt_of_pos _ (by omega)⟩
  have hu : (x * more) * A + (times * more) * B + w * S = 1 := by
    have he : e ≠ 0 := by have := z.e1.1; omega
    refine Int.eq_of_mul_eq_mul_left he ?_
    have y1 := z.l1
    have y2 := z.l2
    rw [hA, hB] at y1
    rw [hS] at y2
    rw [← y1] at y2
    clear hL
    grind
  obtain ⟨c, hc, hdc, hco⟩ := MQ.comp_all (f := f) (g := g) fa ga hd.symm (MQ.Pm.of_gcd fg) z.e1.1 hA hB (by rw [hH, hS]) h2 hu hL
  obtain ⟨b1, b2, b3, b4, b5, b6, b7⟩ := MQ.comp_bd uf ug fa ga fd z.e1.1 hA hB h0.1 h0.2 hc hdc
  refine ⟨c, ?_, ⟨b1, b4, hdc, hco⟩, ⟨b2, b6⟩, ⟨b3, b7⟩, h0⟩
  rw [← hc, Int.mul_tdiv_cancel_left _ (by omega)]

end Go.Proofs.Ytijkanilpblogae
end

section
/- The program: quad.compose, the walk. -/
set_option linter.unusedSimpArgs false
set_option linter.unusedVariables false
set_option maxRecDepth 100000
namespace Go.Proofs.Ytijkanilpblogae
open Go.RowKit

/-- The memory of the walk. -/
structure Ko (h : Nat) (f g : Qf) (w W : World) : Prop where
  f : Cl h f.l 32 W
  g : Cl (h + 1) g.l 32 W
  o : Cl (h + 1 + 1) [.int .i64 0, .int .i64 0, .int .i64 0] 32 W
  k : Below h w W
theorem Ko.below {h : Nat} {f g : Qf} {w W W' : World} (x : Ko h f g w W) (c : Below W.heap.size W W') : Ko h f g w W' :=
  ⟨x.f.below c, x.g.below c, x.o.below c, x.k.trans (c.mono (Nat.le_of_lt x.f.lt))⟩

set_option maxHeartbeats 4000000 in
theorem compose_any (f g : Qf) (w : World) (hf : ffault f = (0, 0)) (hg : ffault g = (0, 0)) (hd : f.disc = g.disc) :
    Calls Try.prog 34 #[f.v, g.v] w fun e w' => ∃ h, e = .returned h.v ∧ Cmp f g h ∧ Below w.heap.size w w' := by
  obtain ⟨H, d2, hH, hd2⟩ := same_two hd
  obtain ⟨uf, fa, _, _⟩ := ffault_ok hf
  obtain ⟨ug, ga, _, _⟩ := ffault_ok hg
  obtain ⟨u1, u2, u3, u4, u5, u6⟩ := uf
  obtain ⟨v1, v2, v3, v4, v5, v6⟩ := ug
  have HB1 : Hid (∀ w, Calls Try.prog 50 #[.int .i64 f.a, .int .i64 g.a] w fun e w' => ∃ u v : Int, e = .returned (.tuple #[.int .i64 (Int.gcd f.a g.a : Int), .int .i64 u, .int .i64 v, .agg #[.int .i64 0, .int .i64 0]]) ∧ Bez f.a g.a u v ∧ Below w.heap.size w w') := fun w => Bezout_ok _ _ w (okB_of (by omega) (by omega))
  have g1 := gcd_pos_right (a := f.a) ga
  have HB2 : Hid (∀ w, Calls Try.prog 50 #[.int .i64 H, .int .i64 (Int.gcd f.a g.a : Int)] w fun e w' => ∃ u v : Int, e = .returned (.tuple #[.int .i64 (Int.gcd H (Int.gcd f.a g.a) : Int), .int .i64 u, .int .i64 v, .agg #[.int .i64 0, .int .i64 0]]) ∧ Bez H (Int.gcd f.a g.a) u v ∧ Below w.heap.size w w') := fun w => Bezout_ok _ _ w (okB_of (by omega) (by omega))
  have e1 : (f.b + g.b).tdiv 2 = H := by rw [hH, Int.mul_tdiv_cancel_left _ (by decide)]
  have e2 : (f.b - g.b).tdiv 2 = d2 := by rw [hd2, Int.mul_tdiv_cancel_left _ (by decide)]
  have HZ : Hid (∀ x times w more : Int, Bez f.a g.a x times → Bez H (Int.gcd f.a g.a) w more → Bz f g H (Int.gcd f.a g.a) x times (Int.gcd H (Int.gcd f.a g.a)) w more) := fun x times w more h1 h2 => bz_of ⟨fa, u2⟩ ⟨ga, v2⟩ (by omega) h1 h2
  obtain ⟨E, hE⟩ : ∃ E : Int, (Int.gcd H (Int.gcd f.a g.a) : Int) = E := ⟨_, rfl⟩
  obtain ⟨G, hG⟩ : ∃ G : Int, (Int.gcd f.a g.a : Int) = G := ⟨_, rfl⟩
  rw [hG] at HB1 HB2 HZ g1
  rw [hG] at hE
  rw [hE] at HB2 HZ
  have HF : Hid (ffault f = (0, 0) ∧ ffault g = (0, 0) ∧ f.disc = g.disc ∧ f.b + g.b = 2 * H ∧ f.b - g.b = 2 * d2) := ⟨hf, hg, hd, hH, hd2⟩
  have bH : -1000000 ≤ H ∧ H ≤ 1000000 := by omega
  have bD : -1000000 ≤ d2 ∧ d2 ≤ 1000000 := by omega
  clear hf hg hd hH hd2 hE hG
  unfold Qf.v
  go_enter Try.func34, Try.ntmps34
  go_wp2_with fail
  obtain ⟨W1, hW1⟩ : ∃ W1, W1 = ((w.alloc (.cells #[.int .i64 f.a, .int .i64 f.b, .int .i64 f.c] 32)).alloc (.cells #[.int .i64 g.a, .int .i64 g.b, .int .i64 g.c] 32)).alloc (.cells #[.int .i64 0, .int .i64 0, .int .i64 0] 32) := ⟨_, rfl⟩
  have K1 : Ko w.heap.size f g w W1 := by
    rw [hW1]
    exact ⟨((Cl.new f.l _ w).alloc _).alloc _, (cl_new0 _ g.l _ _ (by simp)).alloc _, cl_new0 _ [.int .i64 0, .int .i64 0, .int .i64 0] _ _ (by simp), Below.alloc (Below.alloc (Below.alloc (Below.refl _ _) (Nat.le_refl _) _) (by simp) _) (by simp; omega) _⟩
  rw [← hW1]
  clear hW1
  refine (HB1.out _).mono ?_
  rintro e w1 ⟨x, times, rfl, hb1, k1⟩
  have HK2 : Hid (Ko w.heap.size f g w (w1.alloc (.cells #[.int .i64 0, .int .i64 0] 24))) := (K1.below k1).below (al1 _ _)
  have HBz1 : Hid (Bez f.a g.a x times) := hb1
  clear K1 k1 HB1 hb1
  go_wp2_with fail
  refine (HB2.out _).mono ?_
  rintro e w2 ⟨ww, more, rfl, hb2, k1⟩
  have HK3 : Hid (Ko w.heap.size f g w (w2.alloc (.cells #[.int .i64 0, .int .i64 0] 24))) := (HK2.out.below k1).below (al1 _ _)
  have z := HZ.out x times ww more HBz1.out hb2
  clear k1 HB2 hb2 HK2 HZ HBz1
  obtain ⟨A, hA⟩ := z.d2
  obtain ⟨B, hB⟩ := z.d3
  have z1 := z.e1
  have z2 := z.t
  have z3 := z.m
  have z4 := z.w1
  have eA : f.a.tdiv E = A := by rw [hA, Int.mul_tdiv_cancel_left _ (by omega)]
  have eB : g.a.tdiv E = B := by rw [hB, Int.mul_tdiv_cancel_left _ (by omega)]
  have t0 : (E == 0) = false := beq_eq_false_iff_ne.2 (by omega)
  obtain ⟨L, hL⟩ : ∃ L, L = (times * more * d2 - ww * g.c) % A := ⟨_, rfl⟩
  obtain ⟨c, hc, hCm, bA, bB, bL⟩ := bz_cmp HF.out.1 HF.out.2.1 HF.out.2.2.1 HF.out.2.2.2.1 HF.out.2.2.2.2 z hA hB hL
  have HCm : Hid (Cmp f g ⟨A * B, g.b + 2 * B * L, c⟩) := hCm
  obtain ⟨V, hV⟩ : ∃ V, times * more = V := ⟨_, rfl⟩
  have bV : -2000000000000 ≤ V ∧ V ≤ 2000000000000 := by
    rw [← hV]
    have := sq_bd (N := 2000000) (x := times) (y := more) (by omega) (by omega) (by omega) (by omega)
    have y1 : (times * more).natAbs = times.natAbs * more.natAbs := Int.natAbs_mul ..
    have y2 : times.natAbs * more.natAbs ≤ 1000000 * 2000000 := Nat.mul_le_mul (by omega) (by omega)
    omega
  obtain ⟨X1, hX1⟩ : ∃ X1, V * d2 = X1 := ⟨_, rfl⟩
  have bX1 : -2000000000000000000 ≤ X1 ∧ X1 ≤ 2000000000000000000 := by
    rw [← hX1]
    have y1 : (V * d2).natAbs = V.natAbs * d2.natAbs := Int.natAbs_mul ..
    have y2 : V.natAbs * d2.natAbs ≤ 2000000000000 * 1000000 := Nat.mul_le_mul (by omega) (by omega)
    omega
  obtain ⟨X2, hX2⟩ : ∃ X2, ww * g.c = X2 := ⟨_, rfl⟩
  have bX2 : -1000000000000 ≤ X2 ∧ X2 ≤ 1000000000000 := by
    rw [← hX2]
    exact sq_bd (N := 1000000) (x := ww) (y := g.c) (by omega) (by omega) (by omega) (by omega)
  have HLf : Hid (∀ w, Calls Try.prog 29 #[.int .i64 (X1 - X2), .int .i64 A] w fun e w' => e = .returned (.int .i64 L) ∧ w' = w) := fun w => by
    rw [hL, hV, hX1, hX2]; exact modLeft_int _ _ w (by omega) bA.1 (by omega)
  obtain ⟨P1, hP1⟩ : ∃ P1, A * B = P1 := ⟨_, rfl⟩
  obtain ⟨P2, hP2⟩ : ∃ P2, 2 * B * L = P2 := ⟨_, rfl⟩
  obtain ⟨P3, hP3⟩ : ∃ P3, E * g.c = P3 := ⟨_, rfl⟩
  obtain ⟨P4, hP4⟩ : ∃ P4, B * L = P4 := ⟨_, rfl⟩
  obtain ⟨P5, hP5⟩ : ∃ P5, L * (g.b + P4) = P5 := ⟨_, rfl⟩
  have b1 : 0 ≤ P1 ∧ P1 ≤ 1000000000000 := by rw [← hP1]; exact ⟨Int.mul_nonneg (by omega) (by omega), (sq_bd (N := 1000000) (x := A) (y := B) (by omega) (by omega) (by omega) (by omega)).2⟩
  have b4 : 0 ≤ P4 ∧ P4 ≤ 1000000000000 := by rw [← hP4]; exact ⟨Int.mul_nonneg (by omega) (by omega), (sq_bd (N := 1000000) (x := B) (y := L) (by omega) (by omega) (by omega) (by omega)).2⟩
  have b2 : 0 ≤ P2 ∧ P2 ≤ 2000000000000 := by rw [← hP2, Int.mul_assoc, hP4]; omega
  have b3 : -1000000000000 ≤ P3 ∧ P3 ≤ 1000000000000 := by rw [← hP3]; exact sq_bd (N := 1000000) (x := E) (y := g.c) (by omega) (by omega) (by omega) (by omega)
  have b5 : -2000000000000000000 ≤ P5 ∧ P5 ≤ 2000000000000000000 := by
    rw [← hP5]
    have y1 : (L * (g.b + P4)).natAbs = L.natAbs * (g.b + P4).natAbs := Int.natAbs_mul ..
    have y2 : L.natAbs * (g.b + P4).natAbs ≤ 1000000 * 2000000000000 := Nat.mul_le_mul (by omega) (by omega)
    omega
  have eC : (P3 + P5).tdiv A = c := by rw [← hc, ← hP3, ← hP5, ← hP4]
  have bC := HCm.out.up.2.2.2.2
  simp only [] at bC
  have t1 : (A == 0) = false := beq_eq_false_iff_ne.2 (by omega)
  rw [hP1, hP2] at HCm
  clear hc hCm hL hA hB z HF
  have c0 := HK3.out.f.cell 0
  have c1 := HK3.out.f.cell 1
  have c2 := HK3.out.f.cell 2
  have c3 := HK3.out.g.cell 0
  have c4 := HK3.out.g.cell 1
  have c5 := HK3.out.g.cell 2
  simp at c0 c1 c2 c3 c4 c5
  obtain ⟨W3, hW3⟩ : ∃ W3, W3 = w2.alloc (.cells #[.int .i64 0, .int .i64 0] 24) := ⟨_, rfl⟩
  rw [← hW3] at HK3 c0 c1 c2 c3 c4 c5
  go_wp2_with fail
  rw [← hW3]
  clear hW3
  go_region
  go_wp2_with fail
  refine (HLf.out _).mono ?_
  rintro e w3 ⟨rfl, hw⟩
  have HK4 : Hid (Ko w.heap.size f g w w3) := by rw [hw]; exact HK3.out.below ((Below.refl _ _).drew)
  clear hw HK3 HLf c0 c1 c2 c3 c4 c5
  have c3 := HK4.out.g.cell 0
  have c4 := HK4.out.g.cell 1
  have c5 := HK4.out.g.cell 2
  have o0 := HK4.out.o.cell 0
  have o1 := HK4.out.o.cell 1
  have o2 := HK4.out.o.cell 2
  have o3 := HK4.out.o.frozen 0
  have o4 := HK4.out.o.frozen 1
  have o5 := HK4.out.o.frozen 2
  have o6 := HK4.out.o.lt
  simp at c3 c4 c5 o0 o1 o2
  go_wp2_with fail
  go_region
  go_wp2
  refine bodyPost_ret (v := .agg #[.int .i64 P1, .int .i64 (g.b + P2), .int .i64 c]) (by simp [results, Try.results34, go_sem, o0, o1, o2, o6]) rfl ⟨⟨P1, g.b + P2, c⟩, rfl, HCm.out, ?_⟩
  refine Below.drew ?_
  iterate 3 refine Below.setCell ?_ (by show w.heap.size ≤ w.heap.size + 1 + 1; omega) _
  exact HK4.out.k

end Go.Proofs.Ytijkanilpblogae
end

section
/- The program: Compose. -/
set_option linter.unusedSimpArgs false
set_option linter.unusedVariables false
set_option maxRecDepth 100000
namespace Go.Proofs.Ytijkanilpblogae
open Go.RowKit

/-- The memory of the walk. -/
structure Kp (h : Nat) (f g : Qf) (w W : World) : Prop where
  cf : Cl h f.l 32 W
  cg : Cl (h + 1) g.l 32 W
  o : Cl (h + 1 + 1) [.int .i64 0, .int .i64 0, .int .i64 0] 32 W
  e : Sv (h + 1 + 1 + 1) 0 0 W
  l : Cl (h + 1 + 1 + 1 + 1) [.int .i64 f.a, .int .i64 f.b, .int .i64 f.c, .int .i64 g.a, .int .i64 g.b, .int .i64 g.c] 32 W
  k : Below h w W
theorem Kp.below {h : Nat} {f g : Qf} {w W W' : World} (x : Kp h f g w W) (c : Below W.heap.size W W') : Kp h f g w W' :=
  ⟨x.cf.below c, x.cg.below c, x.o.below c, x.e.below c, x.l.below c, x.k.trans (c.mono (Nat.le_of_lt x.cf.lt))⟩

/-- The cells that are read. -/
abbrev S6k (f g : Qf) (b : Nat) (W : World) : Prop :=
  W.cell? ⟨b, 0, none⟩ = some (.int .i64 f.a) ∧ W.cell? ⟨b, 1, none⟩ = some (.int .i64 f.b) ∧ W.cell? ⟨b, 2, none⟩ = some (.int .i64 f.c) ∧
  W.cell? ⟨b + 1, 0, none⟩ = some (.int .i64 g.a) ∧ W.cell? ⟨b + 1, 1, none⟩ = some (.int .i64 g.b) ∧ W.cell? ⟨b + 1, 2, none⟩ = some (.int .i64 g.c)
theorem s6k_of {h : Nat} {f g : Qf} {w W : World} (x : Kp h f g w W) : S6k f g h W := ⟨x.cf.cell 0, x.cf.cell 1, x.cf.cell 2, x.cg.cell 0, x.cg.cell 1, x.cg.cell 2⟩
theorem field_turned (w : World) (a b c p q r s : Int) : (Instr.field 63 (.agg #[.int .i64 a, .int .i64 b, .int .i64 c, .int .i64 p, .int .i64 q, .int .i64 r, .int .i64 s]) 0).run Try.prog w = .ok (.agg #[.int .i64 a, .int .i64 b, .int .i64 c]) w := by
  kernel_rfl

theorem cmp_red {f g h : Qf} (hf : ffault f = (0, 0)) (hg : ffault g = (0, 0)) (hd : f.disc = g.disc) (c : Cmp f g h) (w : World) :
    Calls Try.prog 33 #[h.v] w fun e w' => (∃ (r : Qf) (m : Mt), e = .returned (Tv r m) ∧ MQ.Cz f g r ∧ Int.gcd (Int.gcd r.a r.b) r.c = 1) ∧ Below w.heap.size w w' := by
  obtain ⟨_, fa, fd, fg⟩ := ffault_ok hf
  obtain ⟨_, ga, _, gg⟩ := ffault_ok hg
  refine (reduce_any h w c.up c.a (by rw [c.disc]; exact fd)).mono ?_
  rintro e w' ⟨⟨r, M, rfl, hr, ha⟩, k⟩
  exact ⟨⟨r, M.w, rfl, MQ.comp_cz fa ga c.a ha fd hd.symm c.disc (MQ.Pm.of_gcd fg) (MQ.Pm.of_gcd gg) c.co hr⟩, k⟩

set_option maxHeartbeats 4000000 in
theorem Compose_any (f g : Qf) (w : World) : Calls Try.prog 13 #[f.v, g.v] w fun e w' => ∃ h, e = .returned (.tuple #[h.v, ffv (compF f g)]) ∧ ComOut f g h ∧ Below w.heap.size w w' := by
  obtain ⟨c, d, hcd⟩ : ∃ c d, compF f g = (c, d) := ⟨_, _, rfl⟩
  have HCD : Hid (compF f g = (c, d)) := hcd
  rw [hcd]
  clear hcd
  obtain ⟨c0, d0, h0⟩ : ∃ c d, ffault f = (c, d) := ⟨_, _, rfl⟩
  obtain ⟨c1, d1, h1⟩ : ∃ c d, ffault g = (c, d) := ⟨_, _, rfl⟩
  have HF0 : Hid (ffault f = (c0, d0)) := h0
  have HF1 : Hid (ffault g = (c1, d1)) := h1
  have HCf : Hid (∀ w, Calls Try.prog 31 #[f.v] w fun e w' => e = .returned (.agg #[.int .i64 c0, .int .i64 d0]) ∧ Below w.heap.size w w') := fun w => by have k := Check_any f w; rw [h0] at k; exact k
  have HCg : Hid (∀ w, Calls Try.prog 31 #[g.v] w fun e w' => e = .returned (.agg #[.int .i64 c1, .int .i64 d1]) ∧ Below w.heap.size w w') := fun w => by have k := Check_any g w; rw [h1] at k; exact k
  clear h0 h1
  unfold Qf.v at HCf HCg ⊢
  unfold ffv
  go_enter Try.func13, Try.ntmps13
  go_wp2
  obtain ⟨W1, hW1⟩ : ∃ W1, W1 = ((((w.alloc (.cells #[.int .i64 f.a, .int .i64 f.b, .int .i64 f.c] 32)).alloc (.cells #[.int .i64 g.a, .int .i64 g.b, .int .i64 g.c] 32)).alloc (.cells #[.int .i64 0, .int .i64 0, .int .i64 0] 32)).alloc (.cells #[.int .i64 0, .int .i64 0] 24)).alloc (.cells #[.int .i64 f.a, .int .i64 f.b, .int .i64 f.c, .int .i64 g.a, .int .i64 g.b, .int .i64 g.c] 32) := ⟨_, rfl⟩
  have HK1 : Hid (Kp w.heap.size f g w W1) := by
    show Kp _ _ _ _ _
    rw [hW1]
    exact ⟨((((Cl.new f.l _ w).alloc _).alloc _).alloc _).alloc _, (((cl_new0 _ g.l _ _ (by simp)).alloc _).alloc _).alloc _, ((cl_new0 _ [.int .i64 0, .int .i64 0, .int .i64 0] _ _ (by simp)).alloc _).alloc _, sv_al (sv_new0 _ _ _ (by simp) _ _) _, cl_new0 _ _ _ _ (by simp),
      Below.alloc (Below.alloc (Below.alloc (Below.alloc (Below.alloc (Below.refl _ _) (Nat.le_refl _) _) (by simp) _) (by simp; omega) _) (by simp; omega) _) (by simp; omega) _⟩
  rw [← hW1]
  clear hW1
  go_loopw [13] (fun iv wx => ∃ i : Nat, i ≤ 2 ∧ iv = .int .i64 i ∧ Hid ((0 < i → c0 = 0 ∧ d0 = 0) ∧ (1 < i → c1 = 0 ∧ d1 = 0) ∧ Kp w.heap.size f g w wx)) (fun iv _ => 2 - (intOf iv).toNat)
  case atStart => exact ⟨0, by omega, rfl, fun h => by omega, fun h => by omega, HK1.out⟩
  case round =>
    obtain ⟨i, hi, rfl, HR⟩ := hrel
    clear HK1
    have HK : Hid (Kp w.heap.size f g w wr) := HR.out.2.2
    have hi3 : i = 0 ∨ i = 1 ∨ i = 2 := by omega
    rcases hi3 with rfl | rfl | rfl
    · have l0 := HK.out.l.cell 0
      have l1 := HK.out.l.cell 1
      have l2 := HK.out.l.cell 2
      simp at l0 l1 l2
      go_wp2_with fail
      refine (HCf.out _).mono ?_
      rintro e w1 ⟨rfl, k1⟩
      have HK2 : Hid (Kp w.heap.size f g w w1) := (HK.out.below (al1 _ _)).below k1
      have z9 : w.heap.size + 1 + 1 + 1 + 1 < w1.heap.size := HK2.out.l.lt
      have HK3 : Hid (Kp w.heap.size f g w (w1.alloc (.cells #[.int .i64 c0, .int .i64 d0] 24))) := HK2.out.below (al1 _ _)
      clear k1 HK HK2 l0 l1 l2
      rcases ffault_code HF0.out with ⟨rfl, rfl⟩ | hc
      · go_wp2
        go_roundw
        case rel => exact ⟨1, by omega, rfl, fun _ => by simp, fun h => by omega, HK3.out⟩
        case measure => simp [intOf]
      · have hcb : (c0 != 0) = true := by simpa using hc
        obtain ⟨rfl, rfl⟩ : c = c0 ∧ d = d0 := by
          have h4 := HCD.out
          unfold compF at h4
          rw [if_pos (by rw [HF0.out]; intro h; exact hc (congrArg Prod.fst h)), HF0.out] at h4
          simp at h4; omega
        have HX : Hid (c ≠ 0) := hc
        clear hc
        obtain ⟨W3, hW3⟩ : ∃ W3, W3 = w1.alloc (.cells #[.int .i64 c, .int .i64 d] 24) := ⟨_, rfl⟩
        rw [← hW3] at HK3
        have CE : Sv w1.heap.size c d W3 := by rw [hW3]; exact sv_new0 _ _ _ rfl _ _
        have e0 := CE.c0
        have e1 := CE.c1
        have a0 := HK3.out.o.cell 0
        have a1 := HK3.out.o.cell 1
        have a2 := HK3.out.o.cell 2
        have a3 := HK3.out.o.frozen 0
        have a4 := HK3.out.o.frozen 1
        have a5 := HK3.out.o.frozen 2
        have a6 := HK3.out.o.lt
        have r0 := HK3.out.e.c0
        have r1 := HK3.out.e.c1
        have r2 := HK3.out.e.f0
        have r3 := HK3.out.e.f1
        have r4 := HK3.out.e.lt
        simp at a0 a1 a2
        clear CE
        rw [hW3] at e0 e1 a0 a1 a2 a3 a4 a5 a6 r0 r1 r2 r3 r4
        go_wp2_with fail
        rw [← hW3] at *
        clear hW3
        go_region
        go_wp2
        refine bodyPost_ret (v := .tuple #[Qf.v ⟨0, 0, 0⟩, .agg #[.int .i64 c, .int .i64 d]]) (by simp [Qf.v, results, Try.results13, go_sem, a0, a1, a2, a6, r0, r1, r4]) rfl ⟨⟨0, 0, 0⟩, rfl, ⟨fun _ => rfl, fun h => ?_⟩, ?_⟩
        · rw [HCD.out] at h; simp at h; exact absurd h.1 HX.out
        refine Below.drew ?_
        iterate 5 refine Below.setCell ?_ (by first | (show w.heap.size ≤ w.heap.size + 1 + 1; omega) | (show w.heap.size ≤ w.heap.size + 1 + 1 + 1; omega)) _
        exact HK3.out.k
    · have l0 := HK.out.l.cell 3
      have l1 := HK.out.l.cell 4
      have l2 := HK.out.l.cell 5
      simp at l0 l1 l2
      obtain ⟨rfl, rfl⟩ := HR.out.1 (by omega)
      go_wp2_with fail
      refine (HCg.out _).mono ?_
      rintro e w1 ⟨rfl, k1⟩
      have HK2 : Hid (Kp w.heap.size f g w w1) := (HK.out.below (al1 _ _)).below k1
      have z9 : w.heap.size + 1 + 1 + 1 + 1 < w1.heap.size := HK2.out.l.lt
      have HK3 : Hid (Kp w.heap.size f g w (w1.alloc (.cells #[.int .i64 c1, .int .i64 d1] 24))) := HK2.out.below (al1 _ _)
      clear k1 HK HK2 l0 l1 l2
      rcases ffault_code HF1.out with ⟨rfl, rfl⟩ | hc
      · go_wp2
        go_roundw
        case rel => exact ⟨2, by omega, rfl, fun _ => by simp, fun _ => by simp, HK3.out⟩
        case measure => simp [intOf]
      · have hcb : (c1 != 0) = true := by simpa using hc
        obtain ⟨rfl, rfl⟩ : c = c1 ∧ d = d1 := by
          have h4 := HCD.out
          unfold compF at h4
          rw [if_neg (by rw [HF0.out]; simp), if_pos (by rw [HF1.out]; intro h; exact hc (congrArg Prod.fst h)), HF1.out] at h4
          simp at h4; omega
        have HX : Hid (c ≠ 0) := hc
        clear hc
        obtain ⟨W3, hW3⟩ : ∃ W3, W3 = w1.alloc (.cells #[.int .i64 c, .int .i64 d] 24) := ⟨_, rfl⟩
        rw [← hW3] at HK3
        have CE : Sv w1.heap.size c d W3 := by rw [hW3]; exact sv_new0 _ _ _ rfl _ _
        have e0 := CE.c0
        have e1 := CE.c1
        have a0 := HK3.out.o.cell 0
        have a1 := HK3.out.o.cell 1
        have a2 := HK3.out.o.cell 2
        have a3 := HK3.out.o.frozen 0
        have a4 := HK3.out.o.frozen 1
        have a5 := HK3.out.o.frozen 2
        have a6 := HK3.out.o.lt
        have r0 := HK3.out.e.c0
        have r1 := HK3.out.e.c1
        have r2 := HK3.out.e.f0
        have r3 := HK3.out.e.f1
        have r4 := HK3.out.e.lt
        simp at a0 a1 a2
        clear CE
        rw [hW3] at e0 e1 a0 a1 a2 a3 a4 a5 a6 r0 r1 r2 r3 r4
        go_wp2_with fail
        rw [← hW3] at *
        clear hW3
        go_region
        go_wp2
        refine bodyPost_ret (v := .tuple #[Qf.v ⟨0, 0, 0⟩, .agg #[.int .i64 c, .int .i64 d]]) (by simp [Qf.v, results, Try.results13, go_sem, a0, a1, a2, a6, r0, r1, r4]) rfl ⟨⟨0, 0, 0⟩, rfl, ⟨fun _ => rfl, fun h => ?_⟩, ?_⟩
        · rw [HCD.out] at h; simp at h; exact absurd h.1 HX.out
        refine Below.drew ?_
        iterate 5 refine Below.setCell ?_ (by first | (show w.heap.size ≤ w.heap.size + 1 + 1; omega) | (show w.heap.size ≤ w.heap.size + 1 + 1 + 1; omega)) _
        exact HK3.out.k
    · obtain ⟨rfl, rfl⟩ := HR.out.1 (by omega)
      obtain ⟨rfl, rfl⟩ := HR.out.2.1 (by omega)
      obtain ⟨hfu, _, _, _⟩ := ffault_ok HF0.out
      obtain ⟨hgu, _, _, _⟩ := ffault_ok HF1.out
      obtain ⟨D, hD⟩ : ∃ D, D = f.disc := ⟨_, rfl⟩
      obtain ⟨D2, hD2⟩ : ∃ D, D = g.disc := ⟨_, rfl⟩
      have HDD : Hid (D = f.disc ∧ D2 = g.disc) := ⟨hD, hD2⟩
      have HDf : Hid (∀ w, Calls Try.prog 32 #[f.v] w fun e w' => e = .returned (.int .i64 D) ∧ Below w.heap.size w w') := fun w => by rw [hD]; exact discriminant_any f w hfu
      have HDg : Hid (∀ w, Calls Try.prog 32 #[g.v] w fun e w' => e = .returned (.int .i64 D2) ∧ Below w.heap.size w w') := fun w => by rw [hD2]; exact discriminant_any g w hgu
      unfold Qf.v at HDf HDg
      clear hfu hgu hD hD2
      go_wp2_with fail
      have N3 := HK.out.below ((Below.refl wr.heap.size wr).drew)
      refine wp_region_G (S6k f g w.heap.size) 4 (by kernel_rfl) (s6k_of N3) (fun hHeld => ?_)
      refine wpAnyG_take (i := 0) (v := ?v0x1) rfl (by kernel_rfl) (fun _ _ _ h => h) (Or.inl ⟨by rfl, ?y0x1⟩) hHeld ?r0x1
      case y0x1 => (intro wS hSw; obtain ⟨s1, s2, s3, s4, s5, s6⟩ := hSw; go_simp; try with_reducible rfl)
      try simp only [Act.put, List.setIfInBounds_toArray, List.set_cons_zero, List.set_cons_succ]
      refine wpAnyG_take (i := 2) (v := ?v2x2) rfl (by kernel_rfl) (fun _ _ _ h => h) (Or.inl ⟨by rfl, ?y2x2⟩) hHeld ?r2x2
      case y2x2 => (intro wS hSw; obtain ⟨s1, s2, s3, s4, s5, s6⟩ := hSw; go_simp; try with_reducible rfl)
      try simp only [Act.put, List.setIfInBounds_toArray, List.set_cons_zero, List.set_cons_succ]
      refine wpAnyG_one (i := 1) rfl (by kernel_rfl) (fun K hK => ?_)
      go_simp
      refine (HDf.out _).mono ?_
      rintro e ua ⟨rfl, ka⟩
      have N4 := N3.below ka
      refine hK.out _ _ (s6k_of N4) ?_
      clear hK K
      try simp only [Act.put, List.setIfInBounds_toArray, List.set_cons_zero, List.set_cons_succ]
      refine wpAnyG_one (i := 3) rfl (by kernel_rfl) (fun K hK => ?_)
      go_simp
      refine (HDg.out _).mono ?_
      rintro e ub ⟨rfl, kb⟩
      have N5 := N4.below kb
      refine hK.out _ _ (s6k_of N5) ?_
      clear hK K
      try simp only [Act.put, List.setIfInBounds_toArray, List.set_cons_zero, List.set_cons_succ]
      clear hHeld
      have hHeld : S6k f g w.heap.size ub := s6k_of N5
      have HK5 : Hid (Kp w.heap.size f g w ub) := N5
      have a0 := HK5.out.o.cell 0
      have a1 := HK5.out.o.cell 1
      have a2 := HK5.out.o.cell 2
      have a3 := HK5.out.o.frozen 0
      have a4 := HK5.out.o.frozen 1
      have a5 := HK5.out.o.frozen 2
      have a6 := HK5.out.o.lt
      have r0 := HK5.out.e.c0
      have r1 := HK5.out.e.c1
      have r2 := HK5.out.e.f0
      have r3 := HK5.out.e.f1
      have r4 := HK5.out.e.lt
      simp at a0 a1 a2
      by_cases hDE : D = D2
      · have hne : (D != D2) = false := by simpa using hDE
        have hdd : f.disc = g.disc := by rw [← HDD.out.1, ← HDD.out.2]; exact hDE
        obtain ⟨rfl, rfl⟩ : c = 0 ∧ d = 0 := by
          have h4 := HCD.out
          rw [compF_ok HF0.out HF1.out hdd] at h4
          simp at h4; omega
        have HCm : Hid (∀ w, Calls Try.prog 34 #[f.v, g.v] w fun e w' => ∃ h, e = .returned h.v ∧ Cmp f g h ∧ Below w.heap.size w w') := fun w => compose_any f g w HF0.out HF1.out hdd
        have HRm : Hid (∀ h, Cmp f g h → ∀ w, Calls Try.prog 33 #[h.v] w fun e w' => (∃ (r : Qf) (m : Mt), e = .returned (Tv r m) ∧ MQ.Cz f g r ∧ Int.gcd (Int.gcd r.a r.b) r.c = 1) ∧ Below w.heap.size w w') := fun h c w => cmp_red HF0.out HF1.out hdd c w
        unfold Qf.v at HCm HRm
        unfold Tv at HRm
        clear hDE hdd
        refine wpAnyG_last (i := 4) rfl (by kernel_rfl) (by kernel_rfl) (fun K hK => ?_)
        go_simp
        refine hK.out _ _ ?_
        clear hK K
        try simp only [Act.put, List.setIfInBounds_toArray, List.set_cons_zero, List.set_cons_succ]
        refine wpAnyG_done (by kernel_rfl) ?_ _
        have q0 := HK5.out.cf.cell 0
        have q1 := HK5.out.cf.cell 1
        have q2 := HK5.out.cf.cell 2
        have q3 := HK5.out.cg.cell 0
        have q4 := HK5.out.cg.cell 1
        have q5 := HK5.out.cg.cell 2
        simp at q0 q1 q2 q3 q4 q5
        clear hHeld N3 N4 N5 ka kb HK HDf HDg a0 a1 a2 a3 a4 a5 a6 r0 r1 r2 r3 r4
        go_wp2_with fail
        refine (HCm.out _).mono ?_
        rintro e w5 ⟨h, rfl, hcm, k5⟩
        have HK6 : Hid (Kp w.heap.size f g w w5) := HK5.out.below k5
        have HRh : Hid (∀ w, Calls Try.prog 33 #[.agg #[.int .i64 h.a, .int .i64 h.b, .int .i64 h.c]] w fun e w' => (∃ (r : Qf) (m : Mt), e = .returned (.agg #[.int .i64 r.a, .int .i64 r.b, .int .i64 r.c, .int .i64 m.p, .int .i64 m.q, .int .i64 m.r, .int .i64 m.s]) ∧ MQ.Cz f g r ∧ Int.gcd (Int.gcd r.a r.b) r.c = 1) ∧ Below w.heap.size w w') := HRm.out h hcm
        clear hcm k5 HK5 HCm HRm q0 q1 q2 q3 q4 q5
        go_wp2_with fail
        refine (HRh.out _).mono ?_
        rintro e w6 ⟨⟨r, m, rfl, hcz⟩, k6⟩
        have HK7 : Hid (Kp w.heap.size f g w w6) := HK6.out.below k6
        have HCz : Hid (MQ.Cz f g r ∧ Int.gcd (Int.gcd r.a r.b) r.c = 1) := hcz
        have hfld := fun w : World => field_turned w r.a r.b r.c m.p m.q m.r m.s
        have a0 := HK7.out.o.cell 0
        have a1 := HK7.out.o.cell 1
        have a2 := HK7.out.o.cell 2
        have a3 := HK7.out.o.frozen 0
        have a4 := HK7.out.o.frozen 1
        have a5 := HK7.out.o.frozen 2
        have a6 := HK7.out.o.lt
        have r0 := HK7.out.e.c0
        have r1 := HK7.out.e.c1
        have r2 := HK7.out.e.f0
        have r3 := HK7.out.e.f1
        have r4 := HK7.out.e.lt
        simp at a0 a1 a2
        clear hcz k6 HK6 HRh
        go_wp2
        refine bodyPost_ret (v := .tuple #[r.v, .agg #[.int .i64 0, .int .i64 0]]) (by simp [Qf.v, results, Try.results13, go_sem, a0, a1, a2, a6, r0, r1, r4]) rfl ⟨r, rfl, ⟨fun h => absurd HCD.out h, fun _ => HCz.out⟩, ?_⟩
        iterate 5 refine Below.setCell ?_ (by first | (show w.heap.size ≤ w.heap.size + 1 + 1; omega) | (show w.heap.size ≤ w.heap.size + 1 + 1 + 1; omega)) _
        exact HK7.out.k
      · have hne : (D != D2) = true := by simpa using hDE
        obtain ⟨rfl, rfl⟩ : c = 8 ∧ d = 1 := by
          have h4 := HCD.out
          unfold compF at h4
          rw [if_neg (by rw [HF0.out]; simp), if_neg (by rw [HF1.out]; simp), if_pos (by rw [← HDD.out.1, ← HDD.out.2]; exact hDE)] at h4
          simp at h4; omega
        clear hDE
        refine wpAnyG_last (i := 4) rfl (by kernel_rfl) (by kernel_rfl) (fun K hK => ?_)
        go_simp
        refine hK.out _ _ ?_
        clear hK K
        try simp only [Act.put, List.setIfInBounds_toArray, List.set_cons_zero, List.set_cons_succ]
        refine wpAnyG_done (by kernel_rfl) ?_ _
        clear hHeld N3 N4 N5 ka kb HK HDf HDg
        go_wp2
        refine bodyPost_ret (v := .tuple #[Qf.v ⟨0, 0, 0⟩, .agg #[.int .i64 8, .int .i64 1]]) (by simp [Qf.v, results, Try.results13, go_sem, a0, a1, a2, a6, r0, r1, r4]) rfl ⟨⟨0, 0, 0⟩, rfl, ⟨fun _ => rfl, fun h => ?_⟩, ?_⟩
        · rw [HCD.out] at h; simp at h
        iterate 5 refine Below.setCell ?_ (by first | (show w.heap.size ≤ w.heap.size + 1 + 1; omega) | (show w.heap.size ≤ w.heap.size + 1 + 1 + 1; omega)) _
        exact HK5.out.k

end Go.Proofs.Ytijkanilpblogae
end

section
/- The program: quad.classes and Classes. -/
set_option linter.unusedSimpArgs false
set_option linter.unusedVariables false
set_option maxRecDepth 100000
namespace Go.Proofs.Ytijkanilpblogae
open Go.RowKit

/-- What the program tests, is what the reference tests. -/
theorem clsB_code {d A b C : Int} (hd : d < 0) (hA : 1 ≤ A) (hC : (b * b - d).tdiv (4 * A) = C) (hU : Qf.upto 1000000 ⟨A, b, C⟩) :
    clsB d A b = (((⟨A, b, C⟩ : Qf).disc == d) && ((⟨A, b, C⟩ : Qf).redB && ((Int.gcd (Int.gcd A b) C : Int) == 1))) := by
  have hF : formOf d A b = ⟨A, b, C⟩ := by unfold formOf; rw [hC]
  have h1 := Int.mul_tdiv_add_tmod (b * b - d) (4 * A)
  rw [hC] at h1
  have h2 : (⟨A, b, C⟩ : Qf).disc = d + (b * b - d).tmod (4 * A) := by
    unfold Qf.disc; simp only []; omega
  unfold clsB
  rw [hF]
  by_cases h3 : (b * b - d).tmod (4 * A) = 0
  · rw [h3] at h2 ⊢
    have h4 : (⟨A, b, C⟩ : Qf).disc = d := by omega
    rw [h4]
    have h5 : ((ffault ⟨A, b, C⟩).1 == 0) = ((Int.gcd (Int.gcd A b) C : Int) == 1) := by
      have o : ∀ x : Int, -1000000 ≤ x → x ≤ 1000000 → okc x = true := fun x h1 h2 => by unfold okc; simp; omega
      obtain ⟨u1, u2, u3, u4, u5, u6⟩ := hU
      unfold ffault
      simp only [] at u1 u2 u3 u4 u5 u6 ⊢
      rw [if_neg (by rw [o A u1 u2]; simp), if_neg (by rw [o b u3 u4]; simp), if_neg (by rw [o C u5 u6]; simp), if_neg (by rw [h4]; omega)]
      by_cases h6 : Int.gcd (Int.gcd A b) C = 1
      · rw [if_neg (by simpa using h6), h6]; rfl
      · rw [if_pos h6]
        have : ((Int.gcd (Int.gcd A b) C : Int) == 1) = false := beq_eq_false_iff_ne.2 (by omega)
        rw [this]; rfl
    rw [h5]
    simp
  · have h4 : ((⟨A, b, C⟩ : Qf).disc == d) = false := beq_eq_false_iff_ne.2 (by omega)
    rw [h4, beq_eq_false_iff_ne.2 h3]
    rfl

set_option maxHeartbeats 8000000 in
theorem classes_any (d : Int) (w : World) (hd : -200000 ≤ d ∧ d < 0) :
    Calls Try.prog 30 #[.int .i64 d] w fun e w' => ∃ (n : Nat) (a : Option Addr) (c : Nat), e = .returned (.slice a (classesTo d n).length c) ∧ (3 * (n : Int) * n ≤ -d ∧ -d < 3 * ((n : Int) + 1) * ((n : Int) + 1)) ∧ Lw w.heap.size (classesTo d n) a c w w' := by
  obtain ⟨i0, hi, hz0, hz1, hz2⟩ := info_parts Try.infoForm
  have HI : Hid (Try.prog.info? 32 = some i0 ∧ i0.zero = some (.agg #[.int .i64 0, .int .i64 0, .int .i64 0]) ∧ i0.size = 3 ∧ i0.bytes = 24) := ⟨hi, hz0, hz1, hz2⟩
  clear hi hz0 hz1 hz2
  obtain ⟨hd1, hd2⟩ := hd
  go_enter Try.func30, Try.ntmps30
  go_wp2
  go_loopw [3, 4] (fun ov av wx => ∃ (n : Nat) (A : Int) (a : Option Addr) (c : Nat), ov = .slice a (classesTo d n).length c ∧ av = .int .i64 A ∧ Hid (A = (n : Int) + 1 ∧ 3 * (n : Int) * n ≤ -d ∧ n ≤ 258 ∧ Lw w.heap.size (classesTo d n) a c w wx)) (fun _ av _ => 300 - (intOf av).toNat)
  case atStart => exact ⟨0, 1, none, 0, rfl, rfl, rfl, by omega, by omega, World.ownsRow_nil _ _ _ _, Below.refl _ _⟩
  case round =>
    obtain ⟨n, A, a, c, rfl, rfl, HR⟩ := hrel
    obtain ⟨hA, hn, hn2, hL⟩ := HR.out
    have hA1 : 1 ≤ A ∧ A ≤ 259 := by omega
    obtain ⟨Q, hQ⟩ : ∃ Q, Q = 3 * A * A := ⟨_, rfl⟩
    have hQb : 0 ≤ Q ∧ Q ≤ 300000 := by
      have h1 : A * A ≤ 259 * 259 := Int.mul_le_mul hA1.2 hA1.2 (by omega) (by omega)
      have h2 := sq_nn A
      have h3 : 3 * A * A = 3 * (A * A) := Int.mul_assoc ..
      omega
    have hQ2 : 3 * A * A = Q := hQ.symm
    have HQ : Hid (Q = 3 * A * A) := hQ
    clear hQ hA hn hn2 hL
    by_cases hle : Q ≤ -d
    · have hlb : decide (Q ≤ -d) = true := decide_eq_true hle
      have hAn := HR.out.1
      have HL0 : Hid (Lw w.heap.size (classesTo d n) a c w wr) := HR.out.2.2.2
      have HN : Hid (A = (n : Int) + 1 ∧ n ≤ 258) := ⟨HR.out.1, HR.out.2.2.1⟩
      have hclen : (classesTo d n).length ≤ 160000 := by have := classesTo_len d n (by have := HN.out.2; omega); have := HN.out.2; omega
      obtain ⟨L0, hL0⟩ : ∃ L0, L0 = classesTo d n := ⟨_, rfl⟩
      rw [← hL0] at HL0 hclen ⊢
      have HL00 : Hid (L0 = classesTo d n) := hL0
      have HQle : Hid (3 * ((n : Int) + 1) * ((n : Int) + 1) ≤ -d) := by
        have := HQ.out
        rw [HN.out.1] at this
        show _ ≤ _
        omega
      clear hL0 HR hAn
      go_wp2
      go_loopw [3, 5] (fun ov bv wx => ∃ (i : Nat) (b : Int) (a' : Option Addr) (c' : Nat), ov = .slice a' (L0 ++ rowTo d A i).length c' ∧ bv = .int .i64 b ∧ Hid (b = (i : Int) - A ∧ (i : Int) ≤ 2 * A + 1 ∧ Lw w.heap.size (L0 ++ rowTo d A i) a' c' w wx)) (fun _ bv _ => (A + 1 - intOf bv).toNat)
      case atStart => exact ⟨0, -A, a, c, by simp [rowTo], rfl, by omega, by omega, by simpa [rowTo] using HL0.out⟩
      case round =>
        clear HL0 hlb hle hQ2 hQb
        obtain ⟨i, b, a', c', rfl, rfl, HR⟩ := hrel
        obtain ⟨hb, hi2, hLw⟩ := HR.out
        have hb1 : -A ≤ b ∧ b ≤ A + 1 := by omega
        have HB : Hid (b = (i : Int) - A) := hb
        have hilen : (rowTo d A i).length ≤ 600 := by have := rowTo_len d A i; omega
        obtain ⟨L, hL⟩ : ∃ L, L = L0 ++ rowTo d A i := ⟨_, rfl⟩
        have hLlen : L.length ≤ 200000 := by rw [hL, List.length_append]; omega
        rw [← hL] at hLw ⊢
        have HLw : Hid (Lw w.heap.size L a' c' w wr) := hLw
        have HL : Hid (L = L0 ++ rowTo d A i) := hL
        have hwz := hLw.k.size
        clear HR hb hi2 hLw hL hilen
        by_cases hbA : b ≤ A
        · have hbb : decide (b ≤ A) = true := decide_eq_true hbA
          obtain ⟨P, hP⟩ : ∃ P, P = b * b := ⟨_, rfl⟩
          have hPb : 0 ≤ P ∧ P ≤ 70000 := by
            have h1 := sq_bd (show -259 ≤ b by omega) (show b ≤ 259 by omega) (show -259 ≤ b by omega) (show b ≤ 259 by omega)
            have h2 := sq_nn b
            omega
          have hP2 : b * b = P := hP.symm
          have hz4 : (4 * A == 0) = false := beq_eq_false_iff_ne.2 (by omega)
          obtain ⟨C, hC⟩ : ∃ C, (P - d).tdiv (4 * A) = C := ⟨_, rfl⟩
          have hCb : 0 ≤ C ∧ C ≤ 300000 := by
            have h1 := Int.tdiv_nonneg (show 0 ≤ P - d by omega) (show 0 ≤ 4 * A by omega)
            have h2 := Int.natAbs_tdiv (P - d) (4 * A)
            have h3 : (P - d).natAbs.div (4 * A).natAbs ≤ (P - d).natAbs := Nat.div_le_self _ _
            rw [hC] at h1 h2
            omega
          have hF : formOf d A b = ⟨A, b, C⟩ := by unfold formOf; rw [hP2, hC]
          have hU : Qf.upto 1000000 ⟨A, b, C⟩ := ⟨by show -1000000 ≤ A; omega, by show A ≤ 1000000; omega, by show -1000000 ≤ b; omega, by show b ≤ 1000000; omega, by show -1000000 ≤ C; omega, by show C ≤ 1000000; omega⟩
          have HS : Hid (rowTo d A (i + 1) = rowTo d A i ++ cls d A b) := by have := rowTo_succ d A i; rw [← HB.out] at this; exact this
          have hCl := clsB_code (d := d) (A := A) (b := b) (C := C) hd2 hA1.1 (by rw [hP2]; exact hC) hU
          have HF : Hid (formOf d A b = ⟨A, b, C⟩) := hF
          have hskip : clsB d A b = false → (L0 ++ rowTo d A (i + 1)) = L := fun h => by
            rw [HS.out, cls, h, HL.out]; simp
          have HSk : Hid (clsB d A b = false → (L0 ++ rowTo d A (i + 1)) = L) := hskip
          have HDi : Hid (∀ w, Calls Try.prog 32 #[(⟨A, b, C⟩ : Qf).v] w fun e w' => e = .returned (.int .i64 (⟨A, b, C⟩ : Qf).disc) ∧ Below w.heap.size w w') := fun w => discriminant_any ⟨A, b, C⟩ w hU
          have HRed : Hid (∀ w, Calls Try.prog 45 #[(⟨A, b, C⟩ : Qf).v] w fun e w' => e = .returned (.bool (⟨A, b, C⟩ : Qf).redB) ∧ Below w.heap.size w w') := fun w => isReduced_any ⟨A, b, C⟩ w (up_up hU)
          have HGc : Hid (∀ w, Calls Try.prog 46 #[(⟨A, b, C⟩ : Qf).v] w fun e w' => e = .returned (.int .i64 (Int.gcd (Int.gcd A b) C : Int)) ∧ Below w.heap.size w w') := fun w => commonDivisor_any ⟨A, b, C⟩ w hU
          unfold Qf.v at HDi HRed HGc
          simp only [] at HDi HRed HGc
          obtain ⟨D, hD⟩ : ∃ D, (⟨A, b, C⟩ : Qf).disc = D := ⟨_, rfl⟩
          obtain ⟨rb, hrb⟩ : ∃ rb, (⟨A, b, C⟩ : Qf).redB = rb := ⟨_, rfl⟩
          obtain ⟨G, hG⟩ : ∃ G : Nat, Int.gcd (Int.gcd A b) C = G := ⟨_, rfl⟩
          rw [hD] at HDi
          rw [hrb] at HRed
          rw [hG] at HGc
          rw [hD, hrb, hG] at hCl
          have HCl : Hid (clsB d A b = ((D == d) && (rb && ((G : Int) == 1)))) := hCl
          clear hP hF hskip hU hD hrb hG hCl
          cases hT0 : (D == d)
          · skip
            go_wp2_with fail
            refine (HDi.out _).mono ?_
            rintro e w1 ⟨rfl, k1⟩
            have HLw1 : Hid (Lw w.heap.size L a' c' w w1) := (HLw.out.below hwz (al1 wr _)).below (by simp; omega) k1
            have P1 := (Cl.new [.int .i64 A, .int .i64 b, .int .i64 C] 32 wr).below k1
            have HP1 : Hid (Cl wr.heap.size [.int .i64 A, .int .i64 b, .int .i64 C] 32 w1) := P1
            have hz1 : w.heap.size ≤ w1.heap.size := by have := k1.size; simp at this; omega
            have p0 := P1.cell 0
            have p1 := P1.cell 1
            have p2 := P1.cell 2
            simp at p0 p1 p2
            clear k1 P1
            have hlen := HSk.out (by rw [HCl.out, hT0]; simp)
            have HLen : Hid ((L0 ++ rowTo d A (i + 1)) = L) := hlen
            clear hlen
            go_wp2
            go_roundw
            case rel => exact ⟨i + 1, b + 1, a', c', by rw [HLen.out], by go_num, by have := HB.out; omega, by have := HB.out; omega, by rw [HLen.out]; exact HLw1.out⟩
            case measure => simp [intOf]; omega
          · cases rb
            · skip
              go_wp2_with fail
              refine (HDi.out _).mono ?_
              rintro e w1 ⟨rfl, k1⟩
              have HLw1 : Hid (Lw w.heap.size L a' c' w w1) := (HLw.out.below hwz (al1 wr _)).below (by simp; omega) k1
              have P1 := (Cl.new [.int .i64 A, .int .i64 b, .int .i64 C] 32 wr).below k1
              have HP1 : Hid (Cl wr.heap.size [.int .i64 A, .int .i64 b, .int .i64 C] 32 w1) := P1
              have hz1 : w.heap.size ≤ w1.heap.size := by have := k1.size; simp at this; omega
              have p0 := P1.cell 0
              have p1 := P1.cell 1
              have p2 := P1.cell 2
              simp at p0 p1 p2
              clear k1 P1
              go_wp2_with fail
              refine (HRed.out _).mono ?_
              rintro e w2 ⟨rfl, k1⟩
              have HLw2 : Hid (Lw w.heap.size L a' c' w w2) := HLw1.out.below hz1 k1
              have P1 := HP1.out.below k1
              have HP2 : Hid (Cl wr.heap.size [.int .i64 A, .int .i64 b, .int .i64 C] 32 w2) := P1
              have hz2 : w.heap.size ≤ w2.heap.size := by have := k1.size; omega
              clear p0 p1 p2
              have p0 := P1.cell 0
              have p1 := P1.cell 1
              have p2 := P1.cell 2
              simp at p0 p1 p2
              clear k1 P1
              have hlen := HSk.out (by rw [HCl.out, hT0]; simp)
              have HLen : Hid ((L0 ++ rowTo d A (i + 1)) = L) := hlen
              clear hlen
              go_wp2
              go_roundw
              case rel => exact ⟨i + 1, b + 1, a', c', by rw [HLen.out], by go_num, by have := HB.out; omega, by have := HB.out; omega, by rw [HLen.out]; exact HLw2.out⟩
              case measure => simp [intOf]; omega
            · cases hf1 : ((G : Int) == 1)
              · skip
                go_wp2_with fail
                refine (HDi.out _).mono ?_
                rintro e w1 ⟨rfl, k1⟩
                have HLw1 : Hid (Lw w.heap.size L a' c' w w1) := (HLw.out.below hwz (al1 wr _)).below (by simp; omega) k1
                have P1 := (Cl.new [.int .i64 A, .int .i64 b, .int .i64 C] 32 wr).below k1
                have HP1 : Hid (Cl wr.heap.size [.int .i64 A, .int .i64 b, .int .i64 C] 32 w1) := P1
                have hz1 : w.heap.size ≤ w1.heap.size := by have := k1.size; simp at this; omega
                have p0 := P1.cell 0
                have p1 := P1.cell 1
                have p2 := P1.cell 2
                simp at p0 p1 p2
                clear k1 P1
                go_wp2_with fail
                refine (HRed.out _).mono ?_
                rintro e w2 ⟨rfl, k1⟩
                have HLw2 : Hid (Lw w.heap.size L a' c' w w2) := HLw1.out.below hz1 k1
                have P1 := HP1.out.below k1
                have HP2 : Hid (Cl wr.heap.size [.int .i64 A, .int .i64 b, .int .i64 C] 32 w2) := P1
                have hz2 : w.heap.size ≤ w2.heap.size := by have := k1.size; omega
                clear p0 p1 p2
                have p0 := P1.cell 0
                have p1 := P1.cell 1
                have p2 := P1.cell 2
                simp at p0 p1 p2
                clear k1 P1
                go_wp2_with fail
                refine (HGc.out _).mono ?_
                rintro e w3 ⟨rfl, k1⟩
                have HLw3 : Hid (Lw w.heap.size L a' c' w w3) := HLw2.out.below hz2 k1
                have P1 := HP2.out.below k1
                have HP3 : Hid (Cl wr.heap.size [.int .i64 A, .int .i64 b, .int .i64 C] 32 w3) := P1
                have hz3 : w.heap.size ≤ w3.heap.size := by have := k1.size; omega
                clear p0 p1 p2
                have p0 := P1.cell 0
                have p1 := P1.cell 1
                have p2 := P1.cell 2
                simp at p0 p1 p2
                clear k1 P1
                have hlen := HSk.out (by rw [HCl.out, hT0,hf1]; simp)
                have HLen : Hid ((L0 ++ rowTo d A (i + 1)) = L) := hlen
                clear hlen
                go_wp2
                go_roundw
                case rel => exact ⟨i + 1, b + 1, a', c', by rw [HLen.out], by go_num, by have := HB.out; omega, by have := HB.out; omega, by rw [HLen.out]; exact HLw3.out⟩
                case measure => simp [intOf]; omega
              · skip
                go_wp2_with fail
                refine (HDi.out _).mono ?_
                rintro e w1 ⟨rfl, k1⟩
                have HLw1 : Hid (Lw w.heap.size L a' c' w w1) := (HLw.out.below hwz (al1 wr _)).below (by simp; omega) k1
                have P1 := (Cl.new [.int .i64 A, .int .i64 b, .int .i64 C] 32 wr).below k1
                have HP1 : Hid (Cl wr.heap.size [.int .i64 A, .int .i64 b, .int .i64 C] 32 w1) := P1
                have hz1 : w.heap.size ≤ w1.heap.size := by have := k1.size; simp at this; omega
                have p0 := P1.cell 0
                have p1 := P1.cell 1
                have p2 := P1.cell 2
                simp at p0 p1 p2
                clear k1 P1
                go_wp2_with fail
                refine (HRed.out _).mono ?_
                rintro e w2 ⟨rfl, k1⟩
                have HLw2 : Hid (Lw w.heap.size L a' c' w w2) := HLw1.out.below hz1 k1
                have P1 := HP1.out.below k1
                have HP2 : Hid (Cl wr.heap.size [.int .i64 A, .int .i64 b, .int .i64 C] 32 w2) := P1
                have hz2 : w.heap.size ≤ w2.heap.size := by have := k1.size; omega
                clear p0 p1 p2
                have p0 := P1.cell 0
                have p1 := P1.cell 1
                have p2 := P1.cell 2
                simp at p0 p1 p2
                clear k1 P1
                go_wp2_with fail
                refine (HGc.out _).mono ?_
                rintro e w3 ⟨rfl, k1⟩
                have HLw3 : Hid (Lw w.heap.size L a' c' w w3) := HLw2.out.below hz2 k1
                have P1 := HP2.out.below k1
                have HP3 : Hid (Cl wr.heap.size [.int .i64 A, .int .i64 b, .int .i64 C] 32 w3) := P1
                have hz3 : w.heap.size ≤ w3.heap.size := by have := k1.size; omega
                clear p0 p1 p2
                have p0 := P1.cell 0
                have p1 := P1.cell 1
                have p2 := P1.cell 2
                simp at p0 p1 p2
                clear k1 P1
                go_wp2_with (at_builtin; refine wpList_append_own _ rfl _ _ 22 rfl w.heap.size 32 i0 (.agg #[.int .i64 0, .int .i64 0, .int .i64 0]) 3 24 Try.underlying22 HI.out.1 HI.out.2.1 HI.out.2.2.1 HI.out.2.2.2 rfl (by decide) (.slice a' L.length c') L.length (qcells L) rfl (HLw3.out.row.alloc _) ⟨w3.heap.size, 0, none⟩ 1 1 [.int .i64 A, .int .i64 b, .int .i64 C] rfl rfl (Cl.new [.int .i64 A, .int .i64 b, .int .i64 C] 32 w3).news (by simp [Value.oneCell']) (by simp only [maxLen]; omega) (by omega) (by simp; omega) ?_; intro v' w6 hown' hgrow _; obtain ⟨g', cap', rfl⟩ := ownsRow_succ hown')
                have HN6 : Hid (Lw w.heap.size (L ++ [⟨A, b, C⟩]) (some ⟨g', 0, none⟩) cap' w w6) :=
                  ⟨by rw [List.length_append, qcells_one]; exact hown', (HLw3.out.k.alloc hz3 _).grown hgrow (by simp; omega) (fun k e => (HLw3.out.row.lt k e).1)⟩
                clear hown' hgrow
                go_roundw
                case rel =>
                  have hc1 : clsB d A b = true := by rw [HCl.out, hT0, hf1]; rfl
                  have hLL : L0 ++ rowTo d A (i + 1) = L ++ [⟨A, b, C⟩] := by
                    rw [HS.out, cls, hc1, HF.out, HL.out, List.append_assoc]; rfl
                  exact ⟨i + 1, b + 1, some ⟨g', 0, none⟩, cap', by rw [hLL, List.length_append]; rfl, by go_num, by have := HB.out; omega, by have := HB.out; omega, by rw [hLL]; exact HN6.out⟩
                case measure => simp [intOf]; omega
        · have hbb : decide (b ≤ A) = false := decide_eq_false hbA
          go_wp2
          go_roundw
          case rel =>
            have hiA : i = 2 * (n + 1) + 1 := by have := HB.out; have := HN.out.1; omega
            have hLn : L = classesTo d (n + 1) := by
              rw [classesTo_succ, HL.out, HL00.out, hiA, HN.out.1]
            have hn258 : n + 1 ≤ 258 := by
              rcases Nat.lt_or_ge 258 (n + 1) with h | h
              · exfalso
                have h2 : (259 : Int) * 259 ≤ ((n : Int) + 1) * ((n : Int) + 1) := Int.mul_le_mul (by omega) (by omega) (by omega) (by omega)
                have h3 := HQle.out
                rw [Int.mul_assoc] at h3
                omega
              · exact h
            refine ⟨n + 1, A + 1, a', c', by rw [hLn], by go_num, by have := HN.out.1; omega, ?_, hn258, by rw [← hLn]; exact HLw.out⟩
            have := HQle.out
            push_cast
            exact this
          case measure => simp [intOf]; omega
    · have hlb : decide (Q ≤ -d) = false := decide_eq_false hle
      go_wp2
      go_ret
      obtain ⟨hA, hn, hn2, hL⟩ := HR.out
      refine ⟨n, a, c, rfl, ⟨hn, ?_⟩, hL⟩
      have := HQ.out
      rw [hA] at this
      omega

end Go.Proofs.Ytijkanilpblogae
end

section
/- The program: Classes. -/
set_option linter.unusedSimpArgs false
set_option linter.unusedVariables false
set_option maxRecDepth 100000
namespace Go.Proofs.Ytijkanilpblogae
open Go.RowKit

theorem row_cells {B n : Nat} {a : Option Addr} {c : Nat} {t : TypeId} {W : World} {l : List Qf} (h : W.ownsRow B t 3 (.slice a l.length c) l.length (qcells l)) (hl : l ≠ []) :
    ∃ b : Nat, a = some ⟨b, 0, none⟩ ∧ b < W.heap.size ∧ ∀ j u, (qcells l)[j]? = some u → W.cell? ⟨b, j, none⟩ = some u := by
  rcases h.2 with ⟨_, h1⟩ | ⟨g, _, _, h1, _⟩
  · exact absurd (List.length_eq_zero_iff.1 h1) hl
  · have e1 : a = some ⟨g, 0, none⟩ := by simp at h1; exact h1.1
    subst e1
    refine ⟨g, rfl, (h.lt g rfl).2, fun j u hu => ?_⟩
    obtain ⟨hj, _⟩ := List.getElem?_eq_some_iff.1 hu
    rw [h.cellAt j (by rw [qcells_len] at hj; exact hj), hu]

set_option maxHeartbeats 4000000 in
theorem Classes_any (d : Int) (w : World) : Calls Try.prog 8 #[.int .i64 d] w (ClassesOut d w) := by
  unfold ClassesOut ffv
  have HL : Hid (-200000 ≤ d → d < 0 → ∀ w, Calls Try.prog 29 #[.int .i64 d, .int .i64 4] w fun e w' => e = .returned (.int .i64 (d % 4)) ∧ w' = w) := fun h1 h2 w => modLeft_int d 4 w (by omega) (by decide) (by decide)
  have HC : Hid (-200000 ≤ d → d < 0 → ∀ w, Calls Try.prog 30 #[.int .i64 d] w fun e w' => ∃ (n : Nat) (a : Option Addr) (c : Nat), e = .returned (.slice a (classesTo d n).length c) ∧ (3 * (n : Int) * n ≤ -d ∧ -d < 3 * ((n : Int) + 1) * ((n : Int) + 1)) ∧ Lw w.heap.size (classesTo d n) a c w w') := fun h1 h2 w => classes_any d w ⟨h1, h2⟩
  have HS : Hid (Sv w.heap.size 0 0 (w.alloc (.cells #[.int .i64 0, .int .i64 0] 24)) ∧ Below w.heap.size w (w.alloc (.cells #[.int .i64 0, .int .i64 0] 24))) := ⟨sv_new0 _ _ _ rfl _ _, al1 _ _⟩
  by_cases h1 : 0 ≤ d
  · have HCF : Hid (cfault d = (3, 0)) := by show _ = _; rw [cfault, if_pos (.inl h1)]
    rw [HCF.out]
    have t1 : decide (0 ≤ d) = true := decide_eq_true h1
    clear h1
    go_enter Try.func8, Try.ntmps8
    have q0 := HS.out.1.c0
    have q1 := HS.out.1.c1
    have q2 := HS.out.1.f0
    have q3 := HS.out.1.f1
    have q4 := HS.out.1.lt
    have HKK : Hid (Below _ _ _) := HS.out.2
    clear HS
    go_wp2
    refine bodyPost_ret (v := .tuple #[.slice none 0 0, .agg #[.int .i64 3, .int .i64 0]]) (by simp [results, Try.results8, go_sem, q0, q1, q4]) rfl ⟨none, 0, [], rfl, fun _ => rfl, fun h => ?_, fun h => absurd rfl h, ?_⟩
    · simp at h
    · first | exact al1 _ _ | (iterate 2 refine Below.setCell ?_ (by show w.heap.size ≤ w.heap.size; omega) _
                               exact HKK.out)
  have t1 : decide (0 ≤ d) = false := decide_eq_false h1
  by_cases h2 : d < -200000
  · have HCF : Hid (cfault d = (3, 0)) := by show _ = _; rw [cfault, if_pos (.inr h2)]
    rw [HCF.out]
    have t2 : decide (d < -200000) = true := decide_eq_true h2
    clear h1 h2
    go_enter Try.func8, Try.ntmps8
    have q0 := HS.out.1.c0
    have q1 := HS.out.1.c1
    have q2 := HS.out.1.f0
    have q3 := HS.out.1.f1
    have q4 := HS.out.1.lt
    have HKK : Hid (Below _ _ _) := HS.out.2
    clear HS
    go_wp2
    refine bodyPost_ret (v := .tuple #[.slice none 0 0, .agg #[.int .i64 3, .int .i64 0]]) (by simp [results, Try.results8, go_sem, q0, q1, q4]) rfl ⟨none, 0, [], rfl, fun _ => rfl, fun h => ?_, fun h => absurd rfl h, ?_⟩
    · simp at h
    · first | exact al1 _ _ | (iterate 2 refine Below.setCell ?_ (by show w.heap.size ≤ w.heap.size; omega) _
                               exact HKK.out)
  have t2 : decide (d < -200000) = false := decide_eq_false h2
  obtain ⟨R, hR⟩ : ∃ R, d % 4 = R := ⟨_, rfl⟩
  have HL2 : Hid (∀ w, Calls Try.prog 29 #[.int .i64 d, .int .i64 4] w fun e w' => e = .returned (.int .i64 R) ∧ w' = w) := fun w => by rw [← hR]; exact HL.out (by omega) (by omega) w
  have HC2 : Hid (∀ w, Calls Try.prog 30 #[.int .i64 d] w fun e w' => ∃ (n : Nat) (a : Option Addr) (c : Nat), e = .returned (.slice a (classesTo d n).length c) ∧ (3 * (n : Int) * n ≤ -d ∧ -d < 3 * ((n : Int) + 1) * ((n : Int) + 1)) ∧ Lw w.heap.size (classesTo d n) a c w w') := HC.out (by omega) (by omega)
  clear HL HC
  by_cases h3 : 1 < R
  · have HCF : Hid (cfault d = (7, 0)) := by show _ = _; rw [cfault, if_neg (by omega), hR, if_pos h3]
    rw [HCF.out]
    have t3 : decide (1 < R) = true := decide_eq_true h3
    clear h1 h2 h3 hR
    go_enter Try.func8, Try.ntmps8
    go_wp2_with fail
    refine (HL2.out _).mono ?_
    rintro e w1 ⟨rfl, hw⟩
    rw [← hw] at HS
    clear hw
    have q0 := HS.out.1.c0
    have q1 := HS.out.1.c1
    have q2 := HS.out.1.f0
    have q3 := HS.out.1.f1
    have q4 := HS.out.1.lt
    have HKK : Hid (Below _ _ _) := HS.out.2
    clear HS
    go_wp2
    refine bodyPost_ret (v := .tuple #[.slice none 0 0, .agg #[.int .i64 7, .int .i64 0]]) (by simp [results, Try.results8, go_sem, q0, q1, q4]) rfl ⟨none, 0, [], rfl, fun _ => rfl, fun h => ?_, fun h => absurd rfl h, ?_⟩
    · simp at h
    · first | exact al1 _ _ | (iterate 2 refine Below.setCell ?_ (by show w.heap.size ≤ w.heap.size; omega) _
                               exact HKK.out)
  · have HCF : Hid (cfault d = (0, 0)) := by show _ = _; rw [cfault, if_neg (by omega), hR, if_neg h3]
    rw [HCF.out]
    have t3 : decide (1 < R) = false := decide_eq_false h3
    clear h1 h2 h3 hR
    go_enter Try.func8, Try.ntmps8
    go_wp2_with fail
    refine (HL2.out _).mono ?_
    rintro e w1 ⟨rfl, hw⟩
    rw [← hw] at HS
    clear hw
    go_wp2_with fail
    refine (HC2.out _).mono ?_
    rintro e w2 ⟨n, a, c, rfl, hn, hL⟩
    have k2 := hL.k
    have HL : Hid ((3 * (n : Int) * n ≤ -d ∧ -d < 3 * ((n : Int) + 1) * ((n : Int) + 1)) ∧ w2.ownsRow w1.heap.size 32 3 (.slice a (classesTo d n).length c) (classesTo d n).length (qcells (classesTo d n))) := ⟨hn, hL.row⟩
    have HS2 : Hid (Sv w.heap.size 0 0 w2 ∧ Below w.heap.size w w2 ∧ w.heap.size < w1.heap.size) := ⟨HS.out.1.below k2, HS.out.2.trans (k2.mono HS.out.2.size), HS.out.1.lt⟩
    clear k2 hL hn HS
    obtain ⟨l, hl⟩ : ∃ l, l = classesTo d n := ⟨_, rfl⟩
    rw [← hl] at HL ⊢
    have HLn : Hid (l = classesTo d n) := hl
    clear hl
    have q0 := HS2.out.1.c0
    have q1 := HS2.out.1.c1
    have q2 := HS2.out.1.f0
    have q3 := HS2.out.1.f1
    have q4 := HS2.out.1.lt
    go_wp2
    refine bodyPost_ret (v := .tuple #[.slice a l.length c, .agg #[.int .i64 0, .int .i64 0]]) (by simp [results, Try.results8, go_sem, q0, q1, q4]) rfl ⟨a, c, l, rfl, fun h => absurd rfl h, fun _ => ⟨n, HL.out.1, HLn.out⟩, fun h => ?_, ?_⟩
    · obtain ⟨b, hb, hb2, hc⟩ := row_cells (n := 0) HL.out.2 h
      have hb3 := (HL.out.2.lt b (by rw [hb]; rfl)).1
      have hne : b ≠ w.heap.size := by have := HS2.out.2.2; omega
      refine ⟨b, hb, by simpa using hb2, fun j u hu => ?_⟩
      rw [← hc j u hu]
      have e : ∀ (W : World) (k : Nat) (v : Value), (W.setCell ⟨w.heap.size, k, none⟩ v).cell? ⟨b, j, none⟩ = W.cell? ⟨b, j, none⟩ := fun W k v => World.cell?_of_block (Below.heap_setCell W ⟨w.heap.size, k, none⟩ v b hne)
      rw [e, e]
    · iterate 2 refine Below.setCell ?_ (by show w.heap.size ≤ w.heap.size; omega) _
      exact HS2.out.2.1

end Go.Proofs.Ytijkanilpblogae
end

section
/- The examples of the document: formBegun. -/
set_option linter.unusedSimpArgs false
set_option linter.unusedVariables false
set_option maxRecDepth 100000
namespace Go.Proofs.Ytijkanilpblogae
open Go.RowKit

theorem begun_cz : MQ.Cz ⟨2, 1, 3⟩ ⟨2, 1, 3⟩ ⟨2, -1, 3⟩ := by
  have pm : MQ.Pm ⟨2, 1, 3⟩ := ⟨0, 1, 0, by decide⟩
  obtain ⟨c, hc, hdc, hco⟩ := MQ.comp_all (f := ⟨2, 1, 3⟩) (g := ⟨2, 1, 3⟩) (e := 1) (A := 2) (B := 2) (S := 1) (u := 0) (v := 0) (w := 1) (d2 := 0) (L := 1) (by decide) (by decide) rfl pm (by decide) (by decide) (by decide) (by decide) (by decide) (by decide) (by decide)
  obtain rfl : c = 3 := by simp only [] at hc; omega
  refine (MQ.comp_cz (h := ⟨4, 5, 3⟩) (m := ⟨-1, 0, 1, -1⟩) (by decide) (by decide) (by decide) (by decide) (by decide) rfl (by decide) pm pm hco ⟨by decide, by decide, fun x y => ?_⟩).1
  simp only [Qf.at]; grind

theorem begun_fault : ffault ⟨2, 1, 3⟩ = (0, 0) := by decide
theorem begun_len : (classesTo (-23) 2).length = 3 := by decide +kernel

set_option maxHeartbeats 4000000 in
theorem formBegun_any (w : World) : Calls Try.prog 9 #[] w fun e w' => e = .returned (.bool true) ∧ Below w.heap.size w w' := by
  have HC : Hid (∀ w, Calls Try.prog 13 #[.agg #[.int .i64 2, .int .i64 1, .int .i64 3], .agg #[.int .i64 2, .int .i64 1, .int .i64 3]] w fun e w' => e = .returned (.tuple #[.agg #[.int .i64 2, .int .i64 (-1), .int .i64 3], .agg #[.int .i64 0, .int .i64 0]]) ∧ Below w.heap.size w w') := fun w => by
    have hc : compF ⟨2, 1, 3⟩ ⟨2, 1, 3⟩ = (0, 0) := compF_ok begun_fault begun_fault rfl
    refine (Compose_any ⟨2, 1, 3⟩ ⟨2, 1, 3⟩ w).mono ?_
    rintro e w' ⟨h, rfl, ho, k⟩
    have h1 := MQ.Cz.one (by decide) (ho.good hc).1 begun_cz
    rw [h1, hc]
    exact ⟨rfl, k⟩
  have HK : Hid (∀ w, Calls Try.prog 8 #[.int .i64 (-23)] w fun e w' => (∃ (a : Option Addr) (c : Nat), e = .returned (.tuple #[.slice a 3 c, .agg #[.int .i64 0, .int .i64 0]])) ∧ Below w.heap.size w w') := fun w => by
    refine (Classes_any (-23) w).mono ?_
    rintro e w' ⟨a, c, l, rfl, _, hl, _, k⟩
    have hcf : cfault (-23) = (0, 0) := by decide
    obtain ⟨n, hn, hl2⟩ := hl hcf
    obtain rfl : n = 2 := top_one hn.1 hn.2 (by decide) (by decide)
    refine ⟨⟨a, c, ?_⟩, k⟩
    rw [hl2, begun_len, hcf]
  go_enter Try.func9, Try.ntmps9
  go_wp2_with fail
  refine (HC.out _).mono ?_
  rintro e w1 ⟨rfl, k1⟩
  obtain ⟨W2, hW2⟩ : ∃ W2, W2 = (w1.alloc (.cells #[.int .i64 2, .int .i64 (-1), .int .i64 3] 32)).alloc (.cells #[.int .i64 0, .int .i64 0] 24) := ⟨_, rfl⟩
  have K1 : Below w.heap.size w w1 := (al1 w (.cells #[.int .i64 2, .int .i64 1, .int .i64 3] 32)).trans (k1.mono (by simp))
  have k2 : Below w1.heap.size w1 W2 := by rw [hW2]; exact (al1 w1 _).trans ((al1 _ _).mono (by simp))
  have K2 : Below w.heap.size w W2 := K1.trans (k2.mono K1.size)
  have G2 : Cl w1.heap.size [.int .i64 2, .int .i64 (-1), .int .i64 3] 32 W2 := by rw [hW2]; exact (Cl.new [.int .i64 2, .int .i64 (-1), .int .i64 3] _ w1).alloc _
  have E2 : Sv (w1.heap.size + 1) 0 0 W2 := by rw [hW2]; exact sv_new0 _ _ _ (by simp) _ _
  go_wp2_with fail
  rw [← hW2]
  clear hW2
  refine (HK.out _).mono ?_
  rintro e w3 ⟨⟨a, c, rfl⟩, k3⟩
  have k4 := k3.trans ((al1 w3 (.cells #[.int .i64 0, .int .i64 0] 24)).mono k3.size)
  have G4 := G2.below k4
  have E4 := E2.below k4
  have HK4 : Hid (Below w.heap.size w (w3.alloc (.cells #[.int .i64 0, .int .i64 0] 24))) := K2.trans (k4.mono K2.size)
  have g0 := G4.cell 0
  have g1 := G4.cell 1
  have g2 := G4.cell 2
  have e0 := E4.c0
  have e1 := E4.c1
  simp at g0 g1 g2
  clear k1 k2 k3 k4 K1 K2 G2 E2 G4 E4 HC HK
  go_wp2
  go_ret
  exact ⟨rfl, HK4.out⟩

/-- What the laws ask of the program. -/
theorem form_is : FormIs (fun _ => True) := ⟨fun _ _ _ _ => trivial, fun w _ => formBegun_any w, Check_any, Reduce_any⟩
theorem classes_is : ClassesIs (fun _ => True) := ⟨fun _ _ _ _ => trivial, fun w _ => formBegun_any w, Classes_any⟩

end Go.Proofs.Ytijkanilpblogae
end
