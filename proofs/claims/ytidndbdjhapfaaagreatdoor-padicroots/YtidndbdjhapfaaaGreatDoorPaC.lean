/- padic.checkPolynomial, padic.checkStart. -/
import Derived.Test.YtidndbdjhapfaaaGreatDoorPaB
import Derived.Test.YtidndbdjhapfaaaGreatDoorJoinA
set_option linter.unusedSimpArgs false
set_option linter.unusedVariables false
set_option maxRecDepth 100000
namespace Go.Proofs.YtidndbdjhapfaaaGreatDoor
open Go.RowKit

/-- What is told of a polynomial. -/
def Plf (l : List Int) (c a : Int) : Prop :=
  (13 < l.length ∧ c = 2 ∧ a = 2) ∨ (l.length ≤ 13 ∧ (∃ i, i < l.length ∧ numB (l.getD i 0) = false) ∧ c = 3 ∧ a = 2) ∨ (l.length ≤ 13 ∧ (∀ i, i < l.length → numB (l.getD i 0) = true) ∧ c = 0 ∧ a = 0)
theorem plf_ex (l : List Int) : ∃ c a, Plf l c a := by
  by_cases h1 : 13 < l.length
  · exact ⟨2, 2, .inl ⟨h1, rfl, rfl⟩⟩
  · by_cases h2 : ∀ i, i < l.length → numB (l.getD i 0) = true
    · exact ⟨0, 0, .inr (.inr ⟨by omega, h2, rfl, rfl⟩)⟩
    · refine ⟨3, 2, .inr (.inl ⟨by omega, ?_, rfl, rfl⟩)⟩
      refine Classical.byContradiction fun h => h2 fun i hi => ?_
      cases hb : numB (l.getD i 0)
      · exact absurd ⟨i, hi, hb⟩ h
      · rfl
theorem num_abs {x : Int} (h : numB x = true) : x.natAbs ≤ 1000000000000000000 := by simp [numB] at h; omega

set_option maxHeartbeats 400000 in
theorem checkPolynomial_any (s : Value) (l : List Int) (c a : Int) (w : World) (hs : IS w s l) (hl : l.length ≤ 9000000000000000000) (h : Plf l c a) :
    Calls Tryz.prog 13 #[s] w fun e w' => e = .returned (.agg #[.int .i64 c, .int .i64 a]) ∧ Below w.heap.size w w' := by
  obtain ⟨aa, g, o, cap, rfl, haa, hc, hg⟩ := hs
  obtain ⟨L, hL⟩ : ∃ L, L = l.length := ⟨_, rfl⟩
  unfold Plf at h
  rw [← hL] at hc haa hl hg h ⊢
  have HC : Hid (∀ i, i < L → w.cell? ⟨g, o + i, none⟩ = some (.int .i64 (l.getD i 0))) := hc
  have HAA : Hid (0 < L → aa = some ⟨g, o, none⟩) := haa
  have HG : Hid (0 < L → g < w.heap.size) := hg
  clear hc haa hg hL
  rcases h with ⟨h1, rfl, rfl⟩ | h
  · have hb : decide (13 < (L : Int)) = true := decide_eq_true (by omega)
    go_enter Tryz.func13, Tryz.ntmps13
    go_wp2
    exact bodyPost_ret (v := .agg #[.int .i64 2, .int .i64 2]) (by simp [results, Tryz.results13, go_sem]) rfl ⟨rfl, (Below.refl _ w).alloc (Nat.le_refl _) _⟩
  · have h13 : L ≤ 13 := by rcases h with h | h <;> exact h.1
    have hb : decide (13 < (L : Int)) = false := decide_eq_false (by omega)
    have HH : Hid ((L ≤ 13 ∧ (∃ i, i < L ∧ numB (l.getD i 0) = false) ∧ c = 3 ∧ a = 2) ∨ (L ≤ 13 ∧ (∀ i, i < L → numB (l.getD i 0) = true) ∧ c = 0 ∧ a = 0)) := h
    clear h
    go_enter Tryz.func13, Tryz.ntmps13
    go_wp2
    go_loop [11] (fun i => ∃ k : Nat, k ≤ L ∧ i = .int .i64 k ∧ Hid (∀ j, j < k → numB (l.getD j 0) = true)) (fun i => L - (intOf i).toNat)
    case atStart => exact ⟨0, Nat.zero_le _, rfl, fun j hj => absurd hj (Nat.not_lt_zero _)⟩
    case round =>
      obtain ⟨k, hk, rfl, HOK⟩ := hrel
      by_cases hlt : k < L
      · obtain rfl := HAA.out (by omega)
        have hck := HC.out k hlt
        have hgl := HG.out (by omega)
        have hck2 : ∀ ob, (w.alloc ob).cell? ⟨g, o + k, none⟩ = some (.int .i64 (l.getD k 0)) := fun ob => (cell_old_at w ob _ hgl).trans hck
        obtain ⟨x, hx⟩ : ∃ x, x = l.getD k 0 := ⟨_, rfl⟩
        rw [← hx] at hck
        rw [← hx] at hck2
        have HX : Hid (x = l.getD k 0) := hx
        clear hx
        cases hn : numB x
        · have hf : c = 3 ∧ a = 2 := by
            rcases HH.out with ⟨_, _, h⟩ | ⟨_, h, _⟩
            · exact h
            · have := h k hlt
              rw [← HX.out, hn] at this; cases this
          obtain ⟨rfl, rfl⟩ := hf
          clear hgl
          go_wp2_with (go_at_call 33; refine (isNumber_any _ _).mono ?_; rintro e w' ⟨rfl, rfl⟩)
          exact bodyPost_ret (v := .agg #[.int .i64 3, .int .i64 2]) (by simp [results, Tryz.results13, go_sem]) rfl ⟨rfl, (Below.refl _ w).alloc (Nat.le_refl _) _⟩
        · clear hgl
          go_wp2_with (go_at_call 33; refine (isNumber_any _ _).mono ?_; rintro e w' ⟨rfl, rfl⟩)
          go_round
          case rel =>
            refine ⟨k + 1, by omega, by go_num, fun j hj => ?_⟩
            by_cases hjk : j = k
            · subst hjk; rw [← HX.out]; exact hn
            · exact HOK.out j (by omega)
          case measure => simp [intOf]; omega
      · obtain rfl : k = L := by omega
        have hf : c = 0 ∧ a = 0 := by
          rcases HH.out with ⟨_, ⟨i, h1, h2⟩, _⟩ | ⟨_, _, h⟩
          · have := HOK.out i h1
            rw [h2] at this; cases this
          · exact h
        obtain ⟨rfl, rfl⟩ := hf
        go_wp2
        exact bodyPost_ret (v := .agg #[.int .i64 0, .int .i64 0]) (by simp [results, Tryz.results13, go_sem]) rfl ⟨rfl, (Below.refl _ w).alloc (Nat.le_refl _) _⟩

/-- What is told of the place where the lifting starts. -/
def Ck (P : Nat) (l : List Int) (x c a : Int) : Prop :=
  ((x < 0 ∨ (P : Int) ≤ x) ∧ c = 3 ∧ a = 3) ∨ (0 ≤ x ∧ x < (P : Int) ∧ ((pv l x % (P : Int) ≠ 0 ∧ c = 10 ∧ a = 3) ∨ (pv l x % (P : Int) = 0 ∧ ((dv l x % (P : Int) = 0 ∧ c = 6 ∧ a = 3) ∨ (dv l x % (P : Int) ≠ 0 ∧ c = 0 ∧ a = 0)))))
theorem ck_ex (P : Nat) (l : List Int) (x : Int) : ∃ c a, Ck P l x c a := by
  by_cases h1 : x < 0 ∨ (P : Int) ≤ x
  · exact ⟨3, 3, .inl ⟨h1, rfl, rfl⟩⟩
  · by_cases h2 : pv l x % (P : Int) = 0
    · by_cases h3 : dv l x % (P : Int) = 0
      · exact ⟨6, 3, .inr ⟨by omega, by omega, .inr ⟨h2, .inl ⟨h3, rfl, rfl⟩⟩⟩⟩
      · exact ⟨0, 0, .inr ⟨by omega, by omega, .inr ⟨h2, .inr ⟨h3, rfl, rfl⟩⟩⟩⟩
    · exact ⟨10, 3, .inr ⟨by omega, by omega, .inl ⟨h2, rfl, rfl⟩⟩⟩

set_option maxHeartbeats 400000 in
theorem checkStart_any (P : Nat) (s : Value) (l : List Int) (x c a : Int) (w : World) (hP : 2 ≤ P) (hP6 : P ≤ 1000000) (hs : IS w s l) (hl : l.length ≤ 13) (hn : ∀ i, i < l.length → numB (l.getD i 0) = true) (h : Ck P l x c a) :
    Calls Tryz.prog 25 #[.int .i64 P, s, .int .i64 x] w fun e w' => e = .returned (.agg #[.int .i64 c, .int .i64 a]) ∧ Below w.heap.size w w' := by
  have hn4 : ∀ i, i < l.length → (l.getD i 0).natAbs ≤ 4000000000000000000 := fun i hi => Nat.le_trans (num_abs (hn i hi)) (by decide)
  have HV : Hid (x.natAbs ≤ 4000000000000000000 → ∀ w, IS w s l → Calls Tryz.prog 30 #[s, .int .i64 x, .int .i64 P] w fun e w' => e = .returned (.int .i64 (pv l x % (P : Int))) ∧ ∃ q, w' = w.drewN q) := fun hx w h => valueAt_any s l x P w h (by omega) hn4 hx (by omega) (by omega)
  have HD : Hid (x.natAbs ≤ 4000000000000000000 → ∀ w, IS w s l → Calls Tryz.prog 27 #[s, .int .i64 x, .int .i64 P] w fun e w' => e = .returned (.int .i64 (dv l x % (P : Int))) ∧ Below w.heap.size w w') := fun hx w h => slopeAt_any s l x P w h (by omega) hn4 hx (by omega) (by omega)
  have HS : Hid (IS w s l) := hs
  have HH := h
  unfold Ck at HH
  have HS0 : Hid (Sv w.heap.size 0 0 (w.alloc (.cells #[.int .i64 0, .int .i64 0] 25))) := Sv.new 0 0 w
  have HK0 : Hid (Below w.heap.size w (w.alloc (.cells #[.int .i64 0, .int .i64 0] 25))) := (Below.refl _ w).alloc (Nat.le_refl _) _
  obtain ⟨aa, g, o, cap, rfl, _⟩ := hs
  have v0 := Int.emod_nonneg (pv l x) (show (P : Int) ≠ 0 by omega)
  have v1 := Int.emod_lt_of_pos (pv l x) (show 0 < (P : Int) by omega)
  have d0 := Int.emod_nonneg (dv l x) (show (P : Int) ≠ 0 by omega)
  have d1 := Int.emod_lt_of_pos (dv l x) (show 0 < (P : Int) by omega)
  obtain ⟨V, hV⟩ : ∃ V, V = pv l x % (P : Int) := ⟨_, rfl⟩
  obtain ⟨D, hD⟩ : ∃ D, D = dv l x % (P : Int) := ⟨_, rfl⟩
  rw [← hV] at HV HH v0 v1
  rw [← hD] at HD HH d0 d1
  clear h hn hn4 hl hV hD
  rcases HH with ⟨h1, rfl, rfl⟩ | ⟨x0, x1, h⟩
  · by_cases h2 : x < 0
    · have hb : decide (x < 0) = true := decide_eq_true h2
      clear h1
      go_enter Tryz.func25, Tryz.ntmps25
      go_wp2
      exact bodyPost_ret (v := .agg #[.int .i64 3, .int .i64 3]) (by simp [results, Tryz.results25, go_sem]) rfl ⟨rfl, (Below.refl _ w).alloc (Nat.le_refl _) _⟩
    · have hb : decide (x < 0) = false := decide_eq_false h2
      have hb2 : decide ((P : Int) ≤ x) = true := decide_eq_true (by omega)
      clear h1
      go_enter Tryz.func25, Tryz.ntmps25
      go_wp2
      exact bodyPost_ret (v := .agg #[.int .i64 3, .int .i64 3]) (by simp [results, Tryz.results25, go_sem]) rfl ⟨rfl, (Below.refl _ w).alloc (Nat.le_refl _) _⟩
  · have hb : decide (x < 0) = false := decide_eq_false (by omega)
    have hb2 : decide ((P : Int) ≤ x) = false := decide_eq_false (by omega)
    have HV2 : Hid (∀ w, IS w (.slice aa l.length cap) l → Calls Tryz.prog 30 #[.slice aa l.length cap, .int .i64 x, .int .i64 P] w fun e w' => e = .returned (.int .i64 V) ∧ ∃ q, w' = w.drewN q) := HV.out (by omega)
    have HD2 : Hid (∀ w, IS w (.slice aa l.length cap) l → Calls Tryz.prog 27 #[.slice aa l.length cap, .int .i64 x, .int .i64 P] w fun e w' => e = .returned (.int .i64 D) ∧ Below w.heap.size w w') := HD.out (by omega)
    clear HV HD
    go_enter Tryz.func25, Tryz.ntmps25
    go_wp2_with fail
    refine (HV2.out _ (HS.out.belowP ((Below.refl _ w).alloc (Nat.le_refl _) _))).mono ?_
    rintro e w1 ⟨rfl, q1, hw1⟩
    have K1 : Below (w.alloc (.cells #[.int .i64 0, .int .i64 0] 25)).heap.size (w.alloc (.cells #[.int .i64 0, .int .i64 0] 25)) w1 := by rw [hw1]; exact below_drewN' (Below.refl _ _)
    have S1 := HS0.out.below K1
    have K1' : Below w.heap.size w w1 := HK0.out.trans (K1.mono (by simp))
    have HK1 : Hid (Below w.heap.size w w1) := K1'
    have HS1 : Hid (Sv w.heap.size 0 0 w1) := S1
    have q0 := S1.c0
    have q1 := S1.c1
    have q2 := S1.f0
    have q3 := S1.f1
    clear hw1 K1 S1 K1'
    rcases h with ⟨h, rfl, rfl⟩ | ⟨rfl, h⟩
    · have hVb : (V != 0) = true := by simp [bne]; exact h
      clear h
      go_wp2
      have z0 := (HS1.out.set 10 3).c0
      have z1 := (HS1.out.set 10 3).c1
      exact bodyPost_ret (v := .agg #[.int .i64 10, .int .i64 3]) (by simp [results, Tryz.results25, go_sem, z0, z1]) rfl ⟨rfl, (HK1.out.setCell (by simp) _).setCell (by simp) _⟩
    · go_wp2_with fail
      refine (HD2.out _ (HS.out.belowP (HK1.out))).mono ?_
      rintro e w2 ⟨rfl, k2⟩
      have S2 := HS1.out.below k2
      have HK2 : Hid (Below w.heap.size w w2) := HK1.out.trans (k2.mono (by have := HS1.out.lt; omega))
      have HS2 : Hid (Sv w.heap.size 0 0 w2) := S2
      clear q0 q1 q2 q3
      have q0 := S2.c0
      have q1 := S2.c1
      have q2 := S2.f0
      have q3 := S2.f1
      clear S2 k2
      rcases h with ⟨rfl, rfl, rfl⟩ | ⟨h, rfl, rfl⟩
      · go_wp2
        have z0 := (HS2.out.set 6 3).c0
        have z1 := (HS2.out.set 6 3).c1
        exact bodyPost_ret (v := .agg #[.int .i64 6, .int .i64 3]) (by simp [results, Tryz.results25, go_sem, z0, z1]) rfl ⟨rfl, (HK2.out.setCell (by simp) _).setCell (by simp) _⟩
      · have hDb : (D == 0) = false := beq_eq_false_iff_ne.2 h
        clear h
        go_wp2
        have z0 := (HS2.out.set 0 0).c0
        have z1 := (HS2.out.set 0 0).c1
        exact bodyPost_ret (v := .agg #[.int .i64 0, .int .i64 0]) (by simp [results, Tryz.results25, go_sem, z0, z1]) rfl ⟨rfl, (HK2.out.setCell (by simp) _).setCell (by simp) _⟩

end Go.Proofs.YtidndbdjhapfaaaGreatDoor
