/- The reference: Plus of two likely points, of far ones; FiniteOrder of the far one. -/
import Derived.Test.YtknnidbdgfimbaaJnO
set_option linter.unusedSimpArgs false
set_option linter.unusedVariables false
set_option maxRecDepth 100000
namespace Go.Proofs.Ytknnidbdgfimbaa
open Go.RowKit TN

theorem Plus_int (a b x y X Y : Int) (rx ry bx bY : Nat) (W : World) (hc : Cu a b) (hl : Lk a b x y) (hlq : Lk a b X Y) (hne : pAdd a b x y X Y ≠ none) (v1 : Rv W rx (X : Rat) 2) (v2 : Rv W ry (Y : Rat) 2) (v3 : Rv W bx (x : Rat) 2) (v4 : Rv W bY (y : Rat) 2) :
    Calls Try.prog 12 #[.int .i64 a, .agg #[.pointer (some ⟨rx, 0, none⟩), .pointer (some ⟨ry, 0, none⟩), .bool false], .agg #[.pointer (some ⟨bx, 0, none⟩), .pointer (some ⟨bY, 0, none⟩), .bool false]] W fun e w' => PlOut (cst ((pAdd a b x y X Y).getD none)) 2 e W w' := by
  have hX := hlq.range hc
  have hY := hlq.yb hc
  cases ep : pAdd a b x y X Y with
  | none => exact absurd ep hne
  | some o =>
    cases o with
    | none =>
      have hc1 : X = x ∧ Y = -y := by
        unfold pAdd at ep
        by_cases c : X = x ∧ Y = -y
        · exact c
        · rw [if_neg c] at ep
          split at ep
          · split at ep
            · simp at ep
            · dsimp only at ep
              split at ep <;> simp at ep
          · split at ep
            · simp at ep
            · dsimp only at ep
              split at ep <;> simp at ep
      refine (Plus_far a rx ry bx bY (X : Rat) (Y : Rat) (x : Rat) (y : Rat) 2 W v1 v2 v3 v4 (by omega) (by rw [hc1.1]) (by rw [hc1.2, Rat.intCast_neg]; grind)).mono ?_
      rintro e w' h
      exact h
    | some q2 =>
      have hl2 := pAdd_lk hl hlq ep
      have hX2 := hl2.range hc
      have hY2 := hl2.yb hc
      unfold pAdd at ep
      by_cases c : X = x ∧ Y = -y
      · rw [if_pos c] at ep; simp at ep
      rw [if_neg c] at ep
      by_cases c2 : X = x ∧ Y = y
      · rw [if_pos c2] at ep
        by_cases c3 : (3 * X * X + a).tmod (2 * Y) ≠ 0
        · rw [if_pos c3] at ep; simp at ep
        rw [if_neg c3] at ep
        dsimp only at ep
        split at ep
        · injection ep with ep; injection ep with ep
          have hY0 : Y ≠ 0 := fun e => c ⟨c2.1, by omega⟩
          have hk := tm (show (3 * X * X + a).tmod (2 * Y) = 0 by simpa using c3)
          obtain ⟨k, hkk⟩ : ∃ k, (3 * X * X + a).tdiv (2 * Y) = k := ⟨_, rfl⟩
          rw [hkk] at ep hk
          have hkr : ((X : Rat) * X * 3 + (a : Rat)) / (2 * (Y : Rat)) = (k : Rat) := by
            have h2 := rdiv_int (show 2 * Y ≠ 0 by omega) hk
            rw [← h2]
            simp only [Rat.intCast_mul, Rat.intCast_add]
            have e2 : ((2 : Int) : Rat) = 2 := rfl
            have e3 : ((3 : Int) : Rat) = 3 := rfl
            rw [e2, e3]
            congr 1
            grind
          refine (Plus_tan a rx ry bx bY (X : Rat) (Y : Rat) (x : Rat) (y : Rat) (k : Rat) 2 W v1 v2 v3 v4 (by omega) hc.a1 hc.a2 (by rw [c2.1]) (by rw [← c2.2]; have := rne hY0; grind) (rne hY0) hkr).mono ?_
          rintro e w' ⟨bx', bY', rfl, r1, r2, kb, _, _⟩
          rw [(pts_int (k := k) (X := X) (x := x) (Y := Y)).2] at r2
          rw [(pts_int (k := k) (X := X) (x := x) (Y := Y)).1] at r1
          rw [← ep] at hX2 hY2 ⊢
          exact ⟨bx', bY', rfl, r1.int (by omega) (by omega), r2.int (by omega) (by omega), kb⟩
        · simp at ep
      · rw [if_neg c2] at ep
        have hxx : X ≠ x := by
          intro e; subst e
          rcases eq_or_neg (hlq.on.trans hl.on.symm) with g | g
          · exact c2 ⟨rfl, g⟩
          · exact c ⟨rfl, g⟩
        by_cases c3 : (y - Y).tmod (x - X) ≠ 0
        · rw [if_pos c3] at ep; simp at ep
        rw [if_neg c3] at ep
        dsimp only at ep
        split at ep
        · injection ep with ep; injection ep with ep
          have hk := tm (show (y - Y).tmod (x - X) = 0 by simpa using c3)
          obtain ⟨k, hkk⟩ : ∃ k, (y - Y).tdiv (x - X) = k := ⟨_, rfl⟩
          rw [hkk] at ep hk
          have hkr : ((y : Rat) - Y) / ((x : Rat) - X) = (k : Rat) := by
            have h2 := rdiv_int (show x - X ≠ 0 by omega) hk
            rw [← h2, Rat.intCast_sub, Rat.intCast_sub]
          refine (Plus_chord a rx ry bx bY (X : Rat) (Y : Rat) (x : Rat) (y : Rat) (k : Rat) 2 W v1 v2 v3 v4 (by omega) (fun e => hxx (Rat.intCast_inj.1 e)) hkr).mono ?_
          rintro e w' ⟨bx', bY', rfl, r1, r2, kb, _, _⟩
          rw [(pts_int (k := k) (X := X) (x := x) (Y := Y)).2] at r2
          rw [(pts_int (k := k) (X := X) (x := x) (Y := Y)).1] at r1
          rw [← ep] at hX2 hY2 ⊢
          exact ⟨bx', bY', rfl, r1.int (by omega) (by omega), r2.int (by omega) (by omega), kb⟩
        · simp at ep

set_option maxHeartbeats 2000000 in
/-- The far one and another. -/
theorem Plus_qfar (a : Int) (v0 v1 u0 u1 : Value) (f : Bool) (w : World) (h0 : ∃ p, v0 = .pointer p) (h1 : ∃ p, v1 = .pointer p) (h2 : ∃ p, u0 = .pointer p) (h3 : ∃ p, u1 = .pointer p) :
    Calls Try.prog 12 #[.int .i64 a, .agg #[v0, v1, .bool true], .agg #[u0, u1, .bool f]] w fun e w' => e = .returned (.agg #[u0, u1, .bool f]) ∧ Below w.heap.size w w' := by
  obtain ⟨p0, rfl⟩ := h0
  obtain ⟨p1, rfl⟩ := h1
  obtain ⟨p2, rfl⟩ := h2
  obtain ⟨p3, rfl⟩ := h3
  go_enter Try.func12, Try.ntmps12
  go_wp2
  exact bodyPost_ret (v := .agg #[.pointer p2, .pointer p3, .bool f]) (by simp [results, Try.results12, go_sem]) rfl ⟨rfl, tal3 _ _ _ _⟩
set_option maxHeartbeats 2000000 in
theorem Plus_rfar (a : Int) (v0 v1 u0 u1 : Value) (w : World) (h0 : ∃ p, v0 = .pointer p) (h1 : ∃ p, v1 = .pointer p) (h2 : ∃ p, u0 = .pointer p) (h3 : ∃ p, u1 = .pointer p) :
    Calls Try.prog 12 #[.int .i64 a, .agg #[v0, v1, .bool false], .agg #[u0, u1, .bool true]] w fun e w' => e = .returned (.agg #[v0, v1, .bool false]) ∧ Below w.heap.size w w' := by
  obtain ⟨p0, rfl⟩ := h0
  obtain ⟨p1, rfl⟩ := h1
  obtain ⟨p2, rfl⟩ := h2
  obtain ⟨p3, rfl⟩ := h3
  go_enter Try.func12, Try.ntmps12
  go_wp2
  exact bodyPost_ret (v := .agg #[.pointer p0, .pointer p1, .bool false]) (by simp [results, Try.results12, go_sem]) rfl ⟨rfl, tal3 _ _ _ _⟩
set_option maxHeartbeats 2000000 in
theorem FiniteOrder_far (a : Int) (w : World) :
    Calls Try.prog 10 #[.int .i64 a, .agg #[.int .i64 0, .int .i64 0, .bool true]] w fun e w' => e = .returned (.int .i64 1) ∧ Below w.heap.size w w' := by
  go_enter Try.func10, Try.ntmps10
  go_wp2_with fail
  refine (PlaceOf_any 0 0 true _ (by decide) (by decide) (by decide) (by decide)).mono ?_
  rintro e w1 ⟨bx, bY, rfl, g1, g2, v1, v2, k1⟩
  have K1 : Below w.heap.size w w1 := (tala w _).trans (k1.mono (by simp))
  have HE : Hid (Below w.heap.size w ((w1.alloc (.cells #[.pointer (some ⟨bx, 0, none⟩), .pointer (some ⟨bY, 0, none⟩), .bool true] 38)).alloc (.cells #[.pointer (some ⟨bx, 0, none⟩), .pointer (some ⟨bY, 0, none⟩), .bool true] 38))) := K1.trans (((tala w1 _).trans ((tala _ _).mono (by simp))).mono K1.size)
  clear g1 g2 v1 v2 k1 K1
  go_wp2
  go_loopw [7] (fun nv wx => nv = .int .i64 1 ∧ Hid (wx = ((w1.alloc (.cells #[.pointer (some ⟨bx, 0, none⟩), .pointer (some ⟨bY, 0, none⟩), .bool true] 38)).alloc (.cells #[.pointer (some ⟨bx, 0, none⟩), .pointer (some ⟨bY, 0, none⟩), .bool true] 38)))) (fun _ _ => 0)
  case atStart => exact ⟨rfl, rfl⟩
  case round =>
    obtain ⟨rfl, HW⟩ := hrel
    have r2 : wr.cell? ⟨w1.heap.size + 1, 2, none⟩ = some (.bool true) := by
      rw [HW.out]
      exact (tcnew (w1.alloc (.cells #[.pointer (some ⟨bx, 0, none⟩), .pointer (some ⟨bY, 0, none⟩), .bool true] 38)) [.pointer (some ⟨bx, 0, none⟩), .pointer (some ⟨bY, 0, none⟩), .bool true] 38 (w1.heap.size + 1) (by simp)).cell 2
    go_wp2
    go_ret
    exact ⟨rfl, by rw [HW.out]; exact HE.out⟩

end Go.Proofs.Ytknnidbdgfimbaa
