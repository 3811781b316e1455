import Derived.Test.YtknnidbdgfimbaaJnM
import Derived.Test.YtknnidbdgfimbaaJnL
import Derived.Test.YtknnidbdgfimbaaJnH
import Derived.Test.YtknnidbdgfimbaaTpA
section
/- The reference: PlaceOf. Written by mktr.py. -/
set_option linter.unusedSimpArgs false
set_option linter.unusedVariables false
set_option maxRecDepth 100000
namespace Go.Proofs.Ytknnidbdgfimbaa
open Go.RowKit

theorem Sl.updP {b : Nat} {w w' : World} {s : Value} {l : List Nat} {c : List Value} (h : Sl w s l) (hu : Upd b w w') (hs : Cl b c 38 w) : Sl w' s l := by
  refine ⟨h.small, ?_⟩
  rcases h.shape with h1 | ⟨g, cap, C, h1, h2, h3, h4⟩
  · exact Or.inl h1
  · refine Or.inr ⟨g, cap, C, h1, h2, ?_, h4⟩
    rw [hu.block g (lt_of_some h3) ?_]; exact h3
    intro e; subst e
    have h5 : w.heap[g]? = some (.cells c.toArray 38) := hs
    rw [h3] at h5; simp at h5
theorem NS.updP {b : Nat} {w w' : World} {s : Value} {n : Nat} {c : List Value} (h : NS w s n) (hu : Upd b w w') (hs : Cl b c 38 w) : NS w' s n := by
  obtain ⟨l, h1, h2⟩ := h; exact ⟨l, h1.updP hu hs, h2⟩
theorem Rt.updP {w w' : World} {b z : Nat} {P Q : Int} {c : List Value} (h : Rt w b P Q) (u : Upd z w w') (hz : Cl z c 38 w) : Rt w' b P Q := by
  obtain ⟨⟨s, t, h1, h2, h3⟩, h4, h5⟩ := h
  refine ⟨⟨s, t, (u.block b h1.lt ?_).trans h1, h2.updP u hz, h3.updP u hz⟩, h4, h5⟩
  intro e; subst e
  have h6 : w.heap[b]? = some (.cells c.toArray 38) := hz
  have h7 : w.heap[b]? = some (.cells [.bool (decide (P < 0)), s, .bool (decide (Q < 0)), t].toArray 59) := h1
  rw [h6] at h7; simp at h7
theorem Rv.updP {w w' : World} {b z : Nat} {v : Rat} {m : Nat} {c : List Value} (h : Rv w b v m) (u : Upd z w w') (hz : Cl z c 38 w) : Rv w' b v m := by
  obtain ⟨P, Q, h, r⟩ := h; exact ⟨P, Q, h.updP u hz, r⟩
theorem BigAt.updRR {b z : Nat} {w w' : World} {n : Int} (h : BigAt w b n) (u : Upd z w w') (hz : RSlot w z) : BigAt w' b n := by
  obtain ⟨s, h1, h2⟩ := h
  obtain ⟨x0, x1, x2, x3, hc⟩ := hz
  refine ⟨s, (u.block b (lt_of_some h1) ?_).trans h1, h2.updR u hc⟩
  intro e; subst e
  have h6 : w.heap[b]? = some (.cells [x0, x1, x2, x3].toArray 59) := hc
  rw [h6] at h1; simp at h1
theorem upd3 (W : World) (z : Nat) (a b c : Value) : Upd z W (((W.setCell ⟨z, 0, none⟩ a).setCell ⟨z, 1, none⟩ b).setCell ⟨z, 2, none⟩ c) := (((Upd.refl z W).setCell a).setCell b).setCell c


abbrev S3p (h : Nat) (x y : Int) (f : Bool) (W : World) : Prop :=
  W.cell? ⟨h, 0, none⟩ = some (.int .i64 x) ∧ W.cell? ⟨h, 1, none⟩ = some (.int .i64 y) ∧ W.cell? ⟨h, 2, none⟩ = some (.bool f)
theorem s3p_of {h : Nat} {x y : Int} {f : Bool} {W : World} (c : Cl h [.int .i64 x, .int .i64 y, .bool f] 30 W) : S3p h x y f W := ⟨c.cell 0, c.cell 1, c.cell 2⟩

set_option maxHeartbeats 8000000 in
theorem PlaceOf_any (x y : Int) (f : Bool) (w : World) (x1 : -1000000000000 ≤ x) (x2 : x ≤ 1000000000000) (y1 : -1000000000000 ≤ y) (y2 : y ≤ 1000000000000) :
    Calls Try.prog 13 #[.agg #[.int .i64 x, .int .i64 y, .bool f]] w fun e w' => ∃ bx bY : Nat, e = .returned (.agg #[.pointer (some ⟨bx, 0, none⟩), .pointer (some ⟨bY, 0, none⟩), .bool f]) ∧ w.heap.size ≤ bx ∧ w.heap.size ≤ bY ∧ Rv w' bx (x : Rat) 2 ∧ Rv w' bY (y : Rat) 2 ∧ Below w.heap.size w w' := by
  have C0 : Cl w.heap.size [.int .i64 x, .int .i64 y, .bool f] 30 ((w.alloc (.cells #[.int .i64 x, .int .i64 y, .bool f] 30)).alloc (.cells #[.pointer none, .pointer none, .bool false] 38)) := (Cl.new _ _ w).alloc _
  have D0 : Cl (w.heap.size + 1) [.pointer none, .pointer none, .bool false] 38 ((w.alloc (.cells #[.int .i64 x, .int .i64 y, .bool f] 30)).alloc (.cells #[.pointer none, .pointer none, .bool false] 38)) := tcnew _ [.pointer none, .pointer none, .bool false] _ _ (by simp)
  have K0 : Below w.heap.size w ((w.alloc (.cells #[.int .i64 x, .int .i64 y, .bool f] 30)).alloc (.cells #[.pointer none, .pointer none, .bool false] 38)) := (tala _ _).trans ((tala _ _).mono (by simp))
  go_enter Try.func13, Try.ntmps13
  go_wp2_with fail
  obtain ⟨W, hW⟩ : ∃ W, ((w.alloc (.cells #[.int .i64 x, .int .i64 y, .bool f] 30)).alloc (.cells #[.pointer none, .pointer none, .bool false] 38)) = W := ⟨_, rfl⟩
  rw [hW] at C0 D0 K0 ⊢
  clear hW
  have HS : Hid (∀ W', Below W.heap.size W W' → S3p w.heap.size x y f W') := fun W' k => s3p_of (C0.below k)
  have HD : Hid (Cl (w.heap.size + 1) [.pointer none, .pointer none, .bool false] 38 W) := D0
  have HK0 : Hid (Below w.heap.size w W ∧ w.heap.size + 1 < W.heap.size) := ⟨K0, D0.lt⟩
  have s0 := s3p_of C0
  clear C0 D0 K0
  refine wp_region_G (S3p w.heap.size x y f) 13 (by kernel_rfl) (HS.out _ (Below.refl _ _).drew) (fun hHeld => ?_)
  clear s0
  refine wpAnyG_take (i := 1) (v := ?v1x1) rfl (by kernel_rfl) (fun _ _ _ h => h) (Or.inl ⟨by rfl, ?y1x1⟩) hHeld ?r1x1
  case y1x1 => (intro wS hSw; obtain ⟨s1, s2, s3⟩ := hSw; go_simp; try with_reducible rfl)
  try simp only [Act.put, List.setIfInBounds_toArray, List.set_cons_zero, List.set_cons_succ]
  refine wpAnyG_take (i := 2) (v := ?v2x2) rfl (by kernel_rfl) (fun _ _ _ h => h) (Or.inl ⟨by rfl, ?y2x2⟩) hHeld ?r2x2
  case y2x2 => (intro wS hSw; obtain ⟨s1, s2, s3⟩ := hSw; go_simp; try with_reducible rfl)
  try simp only [Act.put, List.setIfInBounds_toArray, List.set_cons_zero, List.set_cons_succ]
  refine wpAnyG_take (i := 6) (v := ?v6x3) rfl (by kernel_rfl) (fun _ _ _ h => h) (Or.inl ⟨by rfl, ?y6x3⟩) hHeld ?r6x3
  case y6x3 => (intro wS hSw; obtain ⟨s1, s2, s3⟩ := hSw; go_simp; try with_reducible rfl)
  try simp only [Act.put, List.setIfInBounds_toArray, List.set_cons_zero, List.set_cons_succ]
  refine wpAnyG_take (i := 7) (v := ?v7x4) rfl (by kernel_rfl) (fun _ _ _ h => h) (Or.inl ⟨by rfl, ?y7x4⟩) hHeld ?r7x4
  case y7x4 => (intro wS hSw; obtain ⟨s1, s2, s3⟩ := hSw; go_simp; try with_reducible rfl)
  try simp only [Act.put, List.setIfInBounds_toArray, List.set_cons_zero, List.set_cons_succ]
  refine wpAnyG_take (i := 10) (v := ?v10x5) rfl (by kernel_rfl) (fun _ _ _ h => h) (Or.inl ⟨by rfl, ?y10x5⟩) hHeld ?r10x5
  case y10x5 => (intro wS hSw; obtain ⟨s1, s2, s3⟩ := hSw; go_simp; try with_reducible rfl)
  try simp only [Act.put, List.setIfInBounds_toArray, List.set_cons_zero, List.set_cons_succ]
  refine wpAnyG_take (i := 11) (v := ?v11x6) rfl (by kernel_rfl) (fun _ _ _ h => h) (Or.inl ⟨by rfl, ?y11x6⟩) hHeld ?r11x6
  case y11x6 => (intro wS hSw; obtain ⟨s1, s2, s3⟩ := hSw; go_simp; try with_reducible rfl)
  try simp only [Act.put, List.setIfInBounds_toArray, List.set_cons_zero, List.set_cons_succ]
  clear hHeld
  refine wpAnyG_inv (fun n l a w1 => (n = 8 ∧ l = #[false, true, true, false, false, false, true, true, false, false, true, true, false, false] ∧ a = { tmps := #[.agg #[.int .i64 x, .int .i64 y, .bool f], .pointer (some ⟨w.heap.size, 0, none⟩), .pointer (some ⟨(w.heap.size + 1), 0, none⟩), undef, .pointer (some ⟨w.heap.size, 0, none⟩), .int .i64 x, undef, undef, undef, .pointer (some ⟨w.heap.size, 1, none⟩), .int .i64 y, undef, undef, .pointer (some ⟨w.heap.size, 2, none⟩), .bool f, undef], defers := [] } ∧ Hid (Below W.heap.size W w1)) ∨ (∃ b0 : Nat, n = 7 ∧ l = #[true, true, true, false, false, false, true, true, false, false, true, true, false, false] ∧ a = { tmps := #[.agg #[.int .i64 x, .int .i64 y, .bool f], .pointer (some ⟨w.heap.size, 0, none⟩), .pointer (some ⟨(w.heap.size + 1), 0, none⟩), .pointer (some ⟨b0, 0, none⟩), .pointer (some ⟨w.heap.size, 0, none⟩), .int .i64 x, undef, undef, undef, .pointer (some ⟨w.heap.size, 1, none⟩), .int .i64 y, undef, undef, .pointer (some ⟨w.heap.size, 2, none⟩), .bool f, undef], defers := [] } ∧ Hid (Below W.heap.size W w1 ∧ W.heap.size ≤ b0 ∧ RSlot w1 b0)) ∨ (∃ n0 : Nat, n = 7 ∧ l = #[false, true, true, true, false, false, true, true, false, false, true, true, false, false] ∧ a = { tmps := #[.agg #[.int .i64 x, .int .i64 y, .bool f], .pointer (some ⟨w.heap.size, 0, none⟩), .pointer (some ⟨(w.heap.size + 1), 0, none⟩), undef, .pointer (some ⟨w.heap.size, 0, none⟩), .int .i64 x, .pointer (some ⟨n0, 0, none⟩), undef, undef, .pointer (some ⟨w.heap.size, 1, none⟩), .int .i64 y, undef, undef, .pointer (some ⟨w.heap.size, 2, none⟩), .bool f, undef], defers := [] } ∧ Hid (Below W.heap.size W w1 ∧ W.heap.size ≤ n0 ∧ BigAt w1 n0 x)) ∨ (∃ b1 : Nat, n = 7 ∧ l = #[false, true, true, false, false, true, true, true, false, false, true, true, false, false] ∧ a = { tmps := #[.agg #[.int .i64 x, .int .i64 y, .bool f], .pointer (some ⟨w.heap.size, 0, none⟩), .pointer (some ⟨(w.heap.size + 1), 0, none⟩), undef, .pointer (some ⟨w.heap.size, 0, none⟩), .int .i64 x, undef, undef, .pointer (some ⟨b1, 0, none⟩), .pointer (some ⟨w.heap.size, 1, none⟩), .int .i64 y, undef, undef, .pointer (some ⟨w.heap.size, 2, none⟩), .bool f, undef], defers := [] } ∧ Hid (Below W.heap.size W w1 ∧ W.heap.size ≤ b1 ∧ RSlot w1 b1)) ∨ (∃ b0 n0 : Nat, n = 6 ∧ l = #[true, true, true, true, false, false, true, true, false, false, true, true, false, false] ∧ a = { tmps := #[.agg #[.int .i64 x, .int .i64 y, .bool f], .pointer (some ⟨w.heap.size, 0, none⟩), .pointer (some ⟨(w.heap.size + 1), 0, none⟩), .pointer (some ⟨b0, 0, none⟩), .pointer (some ⟨w.heap.size, 0, none⟩), .int .i64 x, .pointer (some ⟨n0, 0, none⟩), undef, undef, .pointer (some ⟨w.heap.size, 1, none⟩), .int .i64 y, undef, undef, .pointer (some ⟨w.heap.size, 2, none⟩), .bool f, undef], defers := [] } ∧ Hid (Below W.heap.size W w1 ∧ W.heap.size ≤ b0 ∧ RSlot w1 b0 ∧ W.heap.size ≤ n0 ∧ BigAt w1 n0 x ∧ b0 ≠ n0)) ∨ (∃ b0 b1 : Nat, n = 6 ∧ l = #[true, true, true, false, false, true, true, true, false, false, true, true, false, false] ∧ a = { tmps := #[.agg #[.int .i64 x, .int .i64 y, .bool f], .pointer (some ⟨w.heap.size, 0, none⟩), .pointer (some ⟨(w.heap.size + 1), 0, none⟩), .pointer (some ⟨b0, 0, none⟩), .pointer (some ⟨w.heap.size, 0, none⟩), .int .i64 x, undef, undef, .pointer (some ⟨b1, 0, none⟩), .pointer (some ⟨w.heap.size, 1, none⟩), .int .i64 y, undef, undef, .pointer (some ⟨w.heap.size, 2, none⟩), .bool f, undef], defers := [] } ∧ Hid (Below W.heap.size W w1 ∧ W.heap.size ≤ b0 ∧ RSlot w1 b0 ∧ W.heap.size ≤ b1 ∧ RSlot w1 b1 ∧ b0 ≠ b1)) ∨ (∃ n0 b1 : Nat, n = 6 ∧ l = #[false, true, true, true, false, true, true, true, false, false, true, true, false, false] ∧ a = { tmps := #[.agg #[.int .i64 x, .int .i64 y, .bool f], .pointer (some ⟨w.heap.size, 0, none⟩), .pointer (some ⟨(w.heap.size + 1), 0, none⟩), undef, .pointer (some ⟨w.heap.size, 0, none⟩), .int .i64 x, .pointer (some ⟨n0, 0, none⟩), undef, .pointer (some ⟨b1, 0, none⟩), .pointer (some ⟨w.heap.size, 1, none⟩), .int .i64 y, undef, undef, .pointer (some ⟨w.heap.size, 2, none⟩), .bool f, undef], defers := [] } ∧ Hid (Below W.heap.size W w1 ∧ W.heap.size ≤ n0 ∧ BigAt w1 n0 x ∧ W.heap.size ≤ b1 ∧ RSlot w1 b1 ∧ n0 ≠ b1)) ∨ (∃ b0 n0 : Nat, n = 5 ∧ l = #[true, true, true, true, true, false, true, true, false, false, true, true, false, false] ∧ a = { tmps := #[.agg #[.int .i64 x, .int .i64 y, .bool f], .pointer (some ⟨w.heap.size, 0, none⟩), .pointer (some ⟨(w.heap.size + 1), 0, none⟩), .pointer (some ⟨b0, 0, none⟩), .pointer (some ⟨w.heap.size, 0, none⟩), .int .i64 x, .pointer (some ⟨n0, 0, none⟩), .pointer (some ⟨b0, 0, none⟩), undef, .pointer (some ⟨w.heap.size, 1, none⟩), .int .i64 y, undef, undef, .pointer (some ⟨w.heap.size, 2, none⟩), .bool f, undef], defers := [] } ∧ Hid (Below W.heap.size W w1 ∧ W.heap.size ≤ b0 ∧ Rv w1 b0 (x : Rat) 2 ∧ W.heap.size ≤ n0 ∧ BigAt w1 n0 x ∧ b0 ≠ n0)) ∨ (∃ b0 n0 b1 : Nat, n = 5 ∧ l = #[true, true, true, true, false, true, true, true, false, false, true, true, false, false] ∧ a = { tmps := #[.agg #[.int .i64 x, .int .i64 y, .bool f], .pointer (some ⟨w.heap.size, 0, none⟩), .pointer (some ⟨(w.heap.size + 1), 0, none⟩), .pointer (some ⟨b0, 0, none⟩), .pointer (some ⟨w.heap.size, 0, none⟩), .int .i64 x, .pointer (some ⟨n0, 0, none⟩), undef, .pointer (some ⟨b1, 0, none⟩), .pointer (some ⟨w.heap.size, 1, none⟩), .int .i64 y, undef, undef, .pointer (some ⟨w.heap.size, 2, none⟩), .bool f, undef], defers := [] } ∧ Hid (Below W.heap.size W w1 ∧ W.heap.size ≤ b0 ∧ RSlot w1 b0 ∧ W.heap.size ≤ n0 ∧ BigAt w1 n0 x ∧ W.heap.size ≤ b1 ∧ RSlot w1 b1 ∧ b0 ≠ n0 ∧ b0 ≠ b1 ∧ n0 ≠ b1)) ∨ (∃ b0 n0 b1 : Nat, n = 4 ∧ l = #[true, true, true, true, true, true, true, true, false, false, true, true, false, false] ∧ a = { tmps := #[.agg #[.int .i64 x, .int .i64 y, .bool f], .pointer (some ⟨w.heap.size, 0, none⟩), .pointer (some ⟨(w.heap.size + 1), 0, none⟩), .pointer (some ⟨b0, 0, none⟩), .pointer (some ⟨w.heap.size, 0, none⟩), .int .i64 x, .pointer (some ⟨n0, 0, none⟩), .pointer (some ⟨b0, 0, none⟩), .pointer (some ⟨b1, 0, none⟩), .pointer (some ⟨w.heap.size, 1, none⟩), .int .i64 y, undef, undef, .pointer (some ⟨w.heap.size, 2, none⟩), .bool f, undef], defers := [] } ∧ Hid (Below W.heap.size W w1 ∧ W.heap.size ≤ b0 ∧ Rv w1 b0 (x : Rat) 2 ∧ W.heap.size ≤ n0 ∧ BigAt w1 n0 x ∧ W.heap.size ≤ b1 ∧ RSlot w1 b1 ∧ b0 ≠ n0 ∧ b0 ≠ b1 ∧ n0 ≠ b1)) ∨ (∃ b0 n0 n1 : Nat, n = 4 ∧ l = #[true, true, true, true, true, false, true, true, true, false, true, true, false, false] ∧ a = { tmps := #[.agg #[.int .i64 x, .int .i64 y, .bool f], .pointer (some ⟨w.heap.size, 0, none⟩), .pointer (some ⟨(w.heap.size + 1), 0, none⟩), .pointer (some ⟨b0, 0, none⟩), .pointer (some ⟨w.heap.size, 0, none⟩), .int .i64 x, .pointer (some ⟨n0, 0, none⟩), .pointer (some ⟨b0, 0, none⟩), undef, .pointer (some ⟨w.heap.size, 1, none⟩), .int .i64 y, .pointer (some ⟨n1, 0, none⟩), undef, .pointer (some ⟨w.heap.size, 2, none⟩), .bool f, undef], defers := [] } ∧ Hid (Below W.heap.size W w1 ∧ W.heap.size ≤ b0 ∧ Rv w1 b0 (x : Rat) 2 ∧ W.heap.size ≤ n0 ∧ BigAt w1 n0 x ∧ W.heap.size ≤ n1 ∧ BigAt w1 n1 y ∧ b0 ≠ n0 ∧ b0 ≠ n1 ∧ n0 ≠ n1)) ∨ (∃ b0 n0 b1 n1 : Nat, n = 3 ∧ l = #[true, true, true, true, true, true, true, true, true, false, true, true, false, false] ∧ a = { tmps := #[.agg #[.int .i64 x, .int .i64 y, .bool f], .pointer (some ⟨w.heap.size, 0, none⟩), .pointer (some ⟨(w.heap.size + 1), 0, none⟩), .pointer (some ⟨b0, 0, none⟩), .pointer (some ⟨w.heap.size, 0, none⟩), .int .i64 x, .pointer (some ⟨n0, 0, none⟩), .pointer (some ⟨b0, 0, none⟩), .pointer (some ⟨b1, 0, none⟩), .pointer (some ⟨w.heap.size, 1, none⟩), .int .i64 y, .pointer (some ⟨n1, 0, none⟩), undef, .pointer (some ⟨w.heap.size, 2, none⟩), .bool f, undef], defers := [] } ∧ Hid (Below W.heap.size W w1 ∧ W.heap.size ≤ b0 ∧ Rv w1 b0 (x : Rat) 2 ∧ W.heap.size ≤ n0 ∧ BigAt w1 n0 x ∧ W.heap.size ≤ b1 ∧ RSlot w1 b1 ∧ W.heap.size ≤ n1 ∧ BigAt w1 n1 y ∧ b0 ≠ n0 ∧ b0 ≠ b1 ∧ b0 ≠ n1 ∧ n0 ≠ b1 ∧ n0 ≠ n1 ∧ b1 ≠ n1)) ∨ (∃ b0 n0 b1 n1 : Nat, n = 2 ∧ l = #[true, true, true, true, true, true, true, true, true, true, true, true, false, false] ∧ a = { tmps := #[.agg #[.int .i64 x, .int .i64 y, .bool f], .pointer (some ⟨w.heap.size, 0, none⟩), .pointer (some ⟨(w.heap.size + 1), 0, none⟩), .pointer (some ⟨b0, 0, none⟩), .pointer (some ⟨w.heap.size, 0, none⟩), .int .i64 x, .pointer (some ⟨n0, 0, none⟩), .pointer (some ⟨b0, 0, none⟩), .pointer (some ⟨b1, 0, none⟩), .pointer (some ⟨w.heap.size, 1, none⟩), .int .i64 y, .pointer (some ⟨n1, 0, none⟩), .pointer (some ⟨b1, 0, none⟩), .pointer (some ⟨w.heap.size, 2, none⟩), .bool f, undef], defers := [] } ∧ Hid (Below W.heap.size W w1 ∧ W.heap.size ≤ b0 ∧ Rv w1 b0 (x : Rat) 2 ∧ W.heap.size ≤ n0 ∧ BigAt w1 n0 x ∧ W.heap.size ≤ b1 ∧ Rv w1 b1 (y : Rat) 2 ∧ W.heap.size ≤ n1 ∧ BigAt w1 n1 y ∧ b0 ≠ n0 ∧ b0 ≠ b1 ∧ b0 ≠ n1 ∧ n0 ≠ b1 ∧ n0 ≠ n1 ∧ b1 ≠ n1)) ∨ (∃ b0 n0 b1 n1 : Nat, n = 1 ∧ l = #[true, true, true, true, true, true, true, true, true, true, true, true, true, false] ∧ a = { tmps := #[.agg #[.int .i64 x, .int .i64 y, .bool f], .pointer (some ⟨w.heap.size, 0, none⟩), .pointer (some ⟨(w.heap.size + 1), 0, none⟩), .pointer (some ⟨b0, 0, none⟩), .pointer (some ⟨w.heap.size, 0, none⟩), .int .i64 x, .pointer (some ⟨n0, 0, none⟩), .pointer (some ⟨b0, 0, none⟩), .pointer (some ⟨b1, 0, none⟩), .pointer (some ⟨w.heap.size, 1, none⟩), .int .i64 y, .pointer (some ⟨n1, 0, none⟩), .pointer (some ⟨b1, 0, none⟩), .pointer (some ⟨w.heap.size, 2, none⟩), .bool f, .agg #[.pointer (some ⟨b0, 0, none⟩), .pointer (some ⟨b1, 0, none⟩), .bool f]], defers := [] } ∧ Hid (Below W.heap.size W w1 ∧ W.heap.size ≤ b0 ∧ Rv w1 b0 (x : Rat) 2 ∧ W.heap.size ≤ n0 ∧ BigAt w1 n0 x ∧ W.heap.size ≤ b1 ∧ Rv w1 b1 (y : Rat) 2 ∧ W.heap.size ≤ n1 ∧ BigAt w1 n1 y ∧ b0 ≠ n0 ∧ b0 ≠ b1 ∧ b0 ≠ n1 ∧ n0 ≠ b1 ∧ n0 ≠ n1 ∧ b1 ≠ n1)) ∨ (∃ b0 n0 b1 n1 : Nat, n = 0 ∧ l = #[true, true, true, true, true, true, true, true, true, true, true, true, true, true] ∧ a = { tmps := #[.agg #[.int .i64 x, .int .i64 y, .bool f], .pointer (some ⟨w.heap.size, 0, none⟩), .pointer (some ⟨(w.heap.size + 1), 0, none⟩), .pointer (some ⟨b0, 0, none⟩), .pointer (some ⟨w.heap.size, 0, none⟩), .int .i64 x, .pointer (some ⟨n0, 0, none⟩), .pointer (some ⟨b0, 0, none⟩), .pointer (some ⟨b1, 0, none⟩), .pointer (some ⟨w.heap.size, 1, none⟩), .int .i64 y, .pointer (some ⟨n1, 0, none⟩), .pointer (some ⟨b1, 0, none⟩), .pointer (some ⟨w.heap.size, 2, none⟩), .bool f, .agg #[.pointer (some ⟨b0, 0, none⟩), .pointer (some ⟨b1, 0, none⟩), .bool f]], defers := [] } ∧ Hid (W.heap.size ≤ w1.heap.size ∧ (Rv w1 b0 (x : Rat) 2 ∧ Rv w1 b1 (y : Rat) 2 ∧ W.heap.size ≤ b0 ∧ W.heap.size ≤ b1 ∧ Cl (w.heap.size + 1) [.pointer (some ⟨b0, 0, none⟩), .pointer (some ⟨b1, 0, none⟩), .bool f] 38 w1 ∧ Upd (w.heap.size + 1) W w1)))) ?steps _ _ _ _ ?start
  case start => exact Or.inl (⟨rfl, rfl, rfl, (Below.refl W.heap.size W).drew⟩)
  case steps =>
    intro n l a w1 hI
    rcases hI with hI | hI | hI | hI | hI | hI | hI | hI | hI | hI | hI | hI | hI | hI | hI
    · obtain ⟨rfl, rfl, rfl, HH⟩ := hI
      right
      refine ⟨7, [0, 3, 5], rfl, by kernel_rfl, by simp, fun i hi => ?_⟩
      simp only [List.mem_cons, List.not_mem_nil, or_false] at hi
      rcases hi with rfl | rfl | rfl
      · refine ⟨_, rfl, fun K' hK => ?_⟩
        go_simp
        have K := HH.out
        refine hK.out _ _ (fun _ _ => (HS.out _ (K.alloc K.size _))) (Or.inr (Or.inl (⟨w1.heap.size, rfl, rfl, rfl, K.alloc K.size _, K.size, RSlot.new w1 _ _ _ _⟩)))
      · refine ⟨_, rfl, fun K' hK => ?_⟩
        go_simp
        have K := HH.out
        refine (B_any x w1 (by omega) (by omega)).mono ?_
        rintro e w2 ⟨n0, rfl, m2⟩
        refine hK.out _ _ (fun _ _ => (HS.out _ (K.trans (m2.2.2.mono K.size)))) (Or.inr (Or.inr (Or.inl (⟨n0, rfl, rfl, rfl, (K.trans (m2.2.2.mono K.size)), (Nat.le_trans K.size m2.1), m2.2.1⟩))))
      · refine ⟨_, rfl, fun K' hK => ?_⟩
        go_simp
        have K := HH.out
        refine hK.out _ _ (fun _ _ => (HS.out _ (K.alloc K.size _))) (Or.inr (Or.inr (Or.inr (Or.inl (⟨w1.heap.size, rfl, rfl, rfl, K.alloc K.size _, K.size, RSlot.new w1 _ _ _ _⟩)))))
    · obtain ⟨b0, rfl, rfl, rfl, HH⟩ := hI
      right
      refine ⟨6, [3, 5], rfl, by kernel_rfl, by simp, fun i hi => ?_⟩
      simp only [List.mem_cons, List.not_mem_nil, or_false] at hi
      rcases hi with rfl | rfl
      · refine ⟨_, rfl, fun K' hK => ?_⟩
        go_simp
        obtain ⟨K, ge_b0, at_b0⟩ := HH.out
        refine (B_any x w1 (by omega) (by omega)).mono ?_
        rintro e w2 ⟨n0, rfl, m2⟩
        refine hK.out _ _ (fun _ _ => (HS.out _ (K.trans (m2.2.2.mono K.size)))) (Or.inr (Or.inr (Or.inr (Or.inr (Or.inl (⟨b0, n0, rfl, rfl, rfl, (K.trans (m2.2.2.mono K.size)), ge_b0, at_b0.below m2.2.2, (Nat.le_trans K.size m2.1), m2.2.1, (Nat.ne_of_lt (Nat.lt_of_lt_of_le at_b0.lt m2.1))⟩))))))
      · refine ⟨_, rfl, fun K' hK => ?_⟩
        go_simp
        obtain ⟨K, ge_b0, at_b0⟩ := HH.out
        refine hK.out _ _ (fun _ _ => (HS.out _ (K.alloc K.size _))) (Or.inr (Or.inr (Or.inr (Or.inr (Or.inr (Or.inl (⟨b0, w1.heap.size, rfl, rfl, rfl, K.alloc K.size _, ge_b0, at_b0.below (Below.alloc_self' w1 _), K.size, RSlot.new w1 _ _ _ _, (Nat.ne_of_lt at_b0.lt)⟩)))))))
    · obtain ⟨n0, rfl, rfl, rfl, HH⟩ := hI
      right
      refine ⟨6, [0, 5], rfl, by kernel_rfl, by simp, fun i hi => ?_⟩
      simp only [List.mem_cons, List.not_mem_nil, or_false] at hi
      rcases hi with rfl | rfl
      · refine ⟨_, rfl, fun K' hK => ?_⟩
        go_simp
        obtain ⟨K, ge_n0, at_n0⟩ := HH.out
        refine hK.out _ _ (fun _ _ => (HS.out _ (K.alloc K.size _))) (Or.inr (Or.inr (Or.inr (Or.inr (Or.inl (⟨w1.heap.size, n0, rfl, rfl, rfl, K.alloc K.size _, K.size, RSlot.new w1 _ _ _ _, ge_n0, at_n0.below (Below.alloc_self' w1 _) (Nat.le_refl _), (Nat.ne_of_gt at_n0.lt)⟩))))))
      · refine ⟨_, rfl, fun K' hK => ?_⟩
        go_simp
        obtain ⟨K, ge_n0, at_n0⟩ := HH.out
        refine hK.out _ _ (fun _ _ => (HS.out _ (K.alloc K.size _))) (Or.inr (Or.inr (Or.inr (Or.inr (Or.inr (Or.inr (Or.inl (⟨n0, w1.heap.size, rfl, rfl, rfl, K.alloc K.size _, ge_n0, at_n0.below (Below.alloc_self' w1 _) (Nat.le_refl _), K.size, RSlot.new w1 _ _ _ _, (Nat.ne_of_lt at_n0.lt)⟩))))))))
    · obtain ⟨b1, rfl, rfl, rfl, HH⟩ := hI
      right
      refine ⟨6, [0, 3], rfl, by kernel_rfl, by simp, fun i hi => ?_⟩
      simp only [List.mem_cons, List.not_mem_nil, or_false] at hi
      rcases hi with rfl | rfl
      · refine ⟨_, rfl, fun K' hK => ?_⟩
        go_simp
        obtain ⟨K, ge_b1, at_b1⟩ := HH.out
        refine hK.out _ _ (fun _ _ => (HS.out _ (K.alloc K.size _))) (Or.inr (Or.inr (Or.inr (Or.inr (Or.inr (Or.inl (⟨w1.heap.size, b1, rfl, rfl, rfl, K.alloc K.size _, K.size, RSlot.new w1 _ _ _ _, ge_b1, at_b1.below (Below.alloc_self' w1 _), (Nat.ne_of_gt at_b1.lt)⟩)))))))
      · refine ⟨_, rfl, fun K' hK => ?_⟩
        go_simp
        obtain ⟨K, ge_b1, at_b1⟩ := HH.out
        refine (B_any x w1 (by omega) (by omega)).mono ?_
        rintro e w2 ⟨n0, rfl, m2⟩
        refine hK.out _ _ (fun _ _ => (HS.out _ (K.trans (m2.2.2.mono K.size)))) (Or.inr (Or.inr (Or.inr (Or.inr (Or.inr (Or.inr (Or.inl (⟨n0, b1, rfl, rfl, rfl, (K.trans (m2.2.2.mono K.size)), (Nat.le_trans K.size m2.1), m2.2.1, ge_b1, at_b1.below m2.2.2, (Nat.ne_of_gt (Nat.lt_of_lt_of_le at_b1.lt m2.1))⟩))))))))
    · obtain ⟨b0, n0, rfl, rfl, rfl, HH⟩ := hI
      right
      refine ⟨5, [4, 5], rfl, by kernel_rfl, by simp, fun i hi => ?_⟩
      simp only [List.mem_cons, List.not_mem_nil, or_false] at hi
      rcases hi with rfl | rfl
      · refine ⟨_, rfl, fun K' hK => ?_⟩
        go_simp
        obtain ⟨K, ge_b0, at_b0, ge_n0, at_n0, ne_b0_n0⟩ := HH.out
        refine (SetIntV b0 n0 x w1 at_b0 at_n0 x1 x2).mono ?_
        rintro e w2 ⟨rfl, h2, u2⟩
        refine hK.out _ _ (fun _ _ => (HS.out _ (K.trans (u2.below K.size ge_b0)))) (Or.inr (Or.inr (Or.inr (Or.inr (Or.inr (Or.inr (Or.inr (Or.inl (⟨b0, n0, rfl, rfl, rfl, (K.trans (u2.below K.size ge_b0)), ge_b0, h2, ge_n0, at_n0.updRR u2 at_b0, ne_b0_n0⟩)))))))))
      · refine ⟨_, rfl, fun K' hK => ?_⟩
        go_simp
        obtain ⟨K, ge_b0, at_b0, ge_n0, at_n0, ne_b0_n0⟩ := HH.out
        refine hK.out _ _ (fun _ _ => (HS.out _ (K.alloc K.size _))) (Or.inr (Or.inr (Or.inr (Or.inr (Or.inr (Or.inr (Or.inr (Or.inr (Or.inl (⟨b0, n0, w1.heap.size, rfl, rfl, rfl, K.alloc K.size _, ge_b0, at_b0.below (Below.alloc_self' w1 _), ge_n0, at_n0.below (Below.alloc_self' w1 _) (Nat.le_refl _), K.size, RSlot.new w1 _ _ _ _, ne_b0_n0, (Nat.ne_of_lt at_b0.lt), (Nat.ne_of_lt at_n0.lt)⟩))))))))))
    · obtain ⟨b0, b1, rfl, rfl, rfl, HH⟩ := hI
      right
      refine ⟨5, [3], rfl, by kernel_rfl, by simp, fun i hi => ?_⟩
      simp only [List.mem_cons, List.not_mem_nil, or_false] at hi
      subst hi
      refine ⟨_, rfl, fun K' hK => ?_⟩
      go_simp
      obtain ⟨K, ge_b0, at_b0, ge_b1, at_b1, ne_b0_b1⟩ := HH.out
      refine (B_any x w1 (by omega) (by omega)).mono ?_
      rintro e w2 ⟨n0, rfl, m2⟩
      refine hK.out _ _ (fun _ _ => (HS.out _ (K.trans (m2.2.2.mono K.size)))) (Or.inr (Or.inr (Or.inr (Or.inr (Or.inr (Or.inr (Or.inr (Or.inr (Or.inl (⟨b0, n0, b1, rfl, rfl, rfl, (K.trans (m2.2.2.mono K.size)), ge_b0, at_b0.below m2.2.2, (Nat.le_trans K.size m2.1), m2.2.1, ge_b1, at_b1.below m2.2.2, (Nat.ne_of_lt (Nat.lt_of_lt_of_le at_b0.lt m2.1)), ne_b0_b1, (Nat.ne_of_gt (Nat.lt_of_lt_of_le at_b1.lt m2.1))⟩))))))))))
    · obtain ⟨n0, b1, rfl, rfl, rfl, HH⟩ := hI
      right
      refine ⟨5, [0], rfl, by kernel_rfl, by simp, fun i hi => ?_⟩
      simp only [List.mem_cons, List.not_mem_nil, or_false] at hi
      subst hi
      refine ⟨_, rfl, fun K' hK => ?_⟩
      go_simp
      obtain ⟨K, ge_n0, at_n0, ge_b1, at_b1, ne_n0_b1⟩ := HH.out
      refine hK.out _ _ (fun _ _ => (HS.out _ (K.alloc K.size _))) (Or.inr (Or.inr (Or.inr (Or.inr (Or.inr (Or.inr (Or.inr (Or.inr (Or.inl (⟨w1.heap.size, n0, b1, rfl, rfl, rfl, K.alloc K.size _, K.size, RSlot.new w1 _ _ _ _, ge_n0, at_n0.below (Below.alloc_self' w1 _) (Nat.le_refl _), ge_b1, at_b1.below (Below.alloc_self' w1 _), (Nat.ne_of_gt at_n0.lt), (Nat.ne_of_gt at_b1.lt), ne_n0_b1⟩))))))))))
    · obtain ⟨b0, n0, rfl, rfl, rfl, HH⟩ := hI
      right
      refine ⟨4, [5, 8], rfl, by kernel_rfl, by simp, fun i hi => ?_⟩
      simp only [List.mem_cons, List.not_mem_nil, or_false] at hi
      rcases hi with rfl | rfl
      · refine ⟨_, rfl, fun K' hK => ?_⟩
        go_simp
        obtain ⟨K, ge_b0, at_b0, ge_n0, at_n0, ne_b0_n0⟩ := HH.out
        refine hK.out _ _ (fun _ _ => (HS.out _ (K.alloc K.size _))) (Or.inr (Or.inr (Or.inr (Or.inr (Or.inr (Or.inr (Or.inr (Or.inr (Or.inr (Or.inl (⟨b0, n0, w1.heap.size, rfl, rfl, rfl, K.alloc K.size _, ge_b0, at_b0.below (Below.alloc_self' w1 _), ge_n0, at_n0.below (Below.alloc_self' w1 _) (Nat.le_refl _), K.size, RSlot.new w1 _ _ _ _, ne_b0_n0, (Nat.ne_of_lt at_b0.lt), (Nat.ne_of_lt at_n0.lt)⟩)))))))))))
      · refine ⟨_, rfl, fun K' hK => ?_⟩
        go_simp
        obtain ⟨K, ge_b0, at_b0, ge_n0, at_n0, ne_b0_n0⟩ := HH.out
        refine (B_any y w1 (by omega) (by omega)).mono ?_
        rintro e w2 ⟨n1, rfl, m2⟩
        refine hK.out _ _ (fun _ _ => (HS.out _ (K.trans (m2.2.2.mono K.size)))) (Or.inr (Or.inr (Or.inr (Or.inr (Or.inr (Or.inr (Or.inr (Or.inr (Or.inr (Or.inr (Or.inl (⟨b0, n0, n1, rfl, rfl, rfl, (K.trans (m2.2.2.mono K.size)), ge_b0, at_b0.below m2.2.2, ge_n0, at_n0.below m2.2.2 (Nat.le_refl _), (Nat.le_trans K.size m2.1), m2.2.1, ne_b0_n0, (Nat.ne_of_lt (Nat.lt_of_lt_of_le at_b0.lt m2.1)), (Nat.ne_of_lt (Nat.lt_of_lt_of_le at_n0.lt m2.1))⟩))))))))))))
    · obtain ⟨b0, n0, b1, rfl, rfl, rfl, HH⟩ := hI
      right
      refine ⟨4, [4], rfl, by kernel_rfl, by simp, fun i hi => ?_⟩
      simp only [List.mem_cons, List.not_mem_nil, or_false] at hi
      subst hi
      refine ⟨_, rfl, fun K' hK => ?_⟩
      go_simp
      obtain ⟨K, ge_b0, at_b0, ge_n0, at_n0, ge_b1, at_b1, ne_b0_n0, ne_b0_b1, ne_n0_b1⟩ := HH.out
      refine (SetIntV b0 n0 x w1 at_b0 at_n0 x1 x2).mono ?_
      rintro e w2 ⟨rfl, h2, u2⟩
      refine hK.out _ _ (fun _ _ => (HS.out _ (K.trans (u2.below K.size ge_b0)))) (Or.inr (Or.inr (Or.inr (Or.inr (Or.inr (Or.inr (Or.inr (Or.inr (Or.inr (Or.inl (⟨b0, n0, b1, rfl, rfl, rfl, (K.trans (u2.below K.size ge_b0)), ge_b0, h2, ge_n0, at_n0.updRR u2 at_b0, ge_b1, at_b1.updR u2 (Ne.symm ne_b0_b1), ne_b0_n0, ne_b0_b1, ne_n0_b1⟩)))))))))))
    · obtain ⟨b0, n0, b1, rfl, rfl, rfl, HH⟩ := hI
      right
      refine ⟨3, [8], rfl, by kernel_rfl, by simp, fun i hi => ?_⟩
      simp only [List.mem_cons, List.not_mem_nil, or_false] at hi
      subst hi
      refine ⟨_, rfl, fun K' hK => ?_⟩
      go_simp
      obtain ⟨K, ge_b0, at_b0, ge_n0, at_n0, ge_b1, at_b1, ne_b0_n0, ne_b0_b1, ne_n0_b1⟩ := HH.out
      refine (B_any y w1 (by omega) (by omega)).mono ?_
      rintro e w2 ⟨n1, rfl, m2⟩
      refine hK.out _ _ (fun _ _ => (HS.out _ (K.trans (m2.2.2.mono K.size)))) (Or.inr (Or.inr (Or.inr (Or.inr (Or.inr (Or.inr (Or.inr (Or.inr (Or.inr (Or.inr (Or.inr (Or.inl (⟨b0, n0, b1, n1, rfl, rfl, rfl, (K.trans (m2.2.2.mono K.size)), ge_b0, at_b0.below m2.2.2, ge_n0, at_n0.below m2.2.2 (Nat.le_refl _), ge_b1, at_b1.below m2.2.2, (Nat.le_trans K.size m2.1), m2.2.1, ne_b0_n0, ne_b0_b1, (Nat.ne_of_lt (Nat.lt_of_lt_of_le at_b0.lt m2.1)), ne_n0_b1, (Nat.ne_of_lt (Nat.lt_of_lt_of_le at_n0.lt m2.1)), (Nat.ne_of_lt (Nat.lt_of_lt_of_le at_b1.lt m2.1))⟩)))))))))))))
    · obtain ⟨b0, n0, n1, rfl, rfl, rfl, HH⟩ := hI
      right
      refine ⟨3, [5], rfl, by kernel_rfl, by simp, fun i hi => ?_⟩
      simp only [List.mem_cons, List.not_mem_nil, or_false] at hi
      subst hi
      refine ⟨_, rfl, fun K' hK => ?_⟩
      go_simp
      obtain ⟨K, ge_b0, at_b0, ge_n0, at_n0, ge_n1, at_n1, ne_b0_n0, ne_b0_n1, ne_n0_n1⟩ := HH.out
      refine hK.out _ _ (fun _ _ => (HS.out _ (K.alloc K.size _))) (Or.inr (Or.inr (Or.inr (Or.inr (Or.inr (Or.inr (Or.inr (Or.inr (Or.inr (Or.inr (Or.inr (Or.inl (⟨b0, n0, w1.heap.size, n1, rfl, rfl, rfl, K.alloc K.size _, ge_b0, at_b0.below (Below.alloc_self' w1 _), ge_n0, at_n0.below (Below.alloc_self' w1 _) (Nat.le_refl _), K.size, RSlot.new w1 _ _ _ _, ge_n1, at_n1.below (Below.alloc_self' w1 _) (Nat.le_refl _), ne_b0_n0, (Nat.ne_of_lt at_b0.lt), ne_b0_n1, (Nat.ne_of_lt at_n0.lt), ne_n0_n1, (Nat.ne_of_gt at_n1.lt)⟩)))))))))))))
    · obtain ⟨b0, n0, b1, n1, rfl, rfl, rfl, HH⟩ := hI
      right
      refine ⟨2, [9], rfl, by kernel_rfl, by simp, fun i hi => ?_⟩
      simp only [List.mem_cons, List.not_mem_nil, or_false] at hi
      subst hi
      refine ⟨_, rfl, fun K' hK => ?_⟩
      go_simp
      obtain ⟨K, ge_b0, at_b0, ge_n0, at_n0, ge_b1, at_b1, ge_n1, at_n1, ne_b0_n0, ne_b0_b1, ne_b0_n1, ne_n0_b1, ne_n0_n1, ne_b1_n1⟩ := HH.out
      refine (SetIntV b1 n1 y w1 at_b1 at_n1 y1 y2).mono ?_
      rintro e w2 ⟨rfl, h2, u2⟩
      refine hK.out _ _ (fun _ _ => (HS.out _ (K.trans (u2.below K.size ge_b1)))) (Or.inr (Or.inr (Or.inr (Or.inr (Or.inr (Or.inr (Or.inr (Or.inr (Or.inr (Or.inr (Or.inr (Or.inr (Or.inl (⟨b0, n0, b1, n1, rfl, rfl, rfl, (K.trans (u2.below K.size ge_b1)), ge_b0, at_b0.updR u2 at_b1 ne_b0_b1, ge_n0, at_n0.updRR u2 at_b1, ge_b1, h2, ge_n1, at_n1.updRR u2 at_b1, ne_b0_n0, ne_b0_b1, ne_b0_n1, ne_n0_b1, ne_n0_n1, ne_b1_n1⟩))))))))))))))
    · obtain ⟨b0, n0, b1, n1, rfl, rfl, rfl, HH⟩ := hI
      right
      refine ⟨1, [12], rfl, by kernel_rfl, by simp, fun i hi => ?_⟩
      simp only [List.mem_cons, List.not_mem_nil, or_false] at hi
      subst hi
      refine ⟨_, rfl, fun K' hK => ?_⟩
      go_simp
      obtain ⟨K, ge_b0, at_b0, ge_n0, at_n0, ge_b1, at_b1, ge_n1, at_n1, ne_b0_n0, ne_b0_b1, ne_b0_n1, ne_n0_b1, ne_n0_n1, ne_b1_n1⟩ := HH.out
      refine hK.out _ _ (fun _ _ => (HS.out _ K)) (Or.inr (Or.inr (Or.inr (Or.inr (Or.inr (Or.inr (Or.inr (Or.inr (Or.inr (Or.inr (Or.inr (Or.inr (Or.inr (Or.inl (⟨b0, n0, b1, n1, rfl, rfl, rfl, K, ge_b0, at_b0, ge_n0, at_n0, ge_b1, at_b1, ge_n1, at_n1, ne_b0_n0, ne_b0_b1, ne_b0_n1, ne_n0_b1, ne_n0_n1, ne_b1_n1⟩)))))))))))))))
    · obtain ⟨b0, n0, b1, n1, rfl, rfl, rfl, HH⟩ := hI
      right
      refine ⟨0, [13], rfl, by kernel_rfl, by simp, fun i hi => ?_⟩
      simp only [List.mem_cons, List.not_mem_nil, or_false] at hi
      subst hi
      refine ⟨_, rfl, fun K' hK => ?_⟩
      have D1 := HD.out.below HH.out.1
      have cc0 := D1.cell 0
      have cc1 := D1.cell 1
      have cc2 := D1.cell 2
      have cf0 := D1.frozen 0
      have cf1 := D1.frozen 1
      have cf2 := D1.frozen 2
      simp only [List.getElem?_cons_zero, List.getElem?_cons_succ] at cc0 cc1 cc2
      go_simp
      obtain ⟨K, ge_b0, at_b0, ge_n0, at_n0, ge_b1, at_b1, ge_n1, at_n1, ne_b0_n0, ne_b0_b1, ne_b0_n1, ne_n0_b1, ne_n0_n1, ne_b1_n1⟩ := HH.out
      have U1 := upd3 w1 (w.heap.size + 1) (.pointer (some ⟨b0, 0, none⟩)) (.pointer (some ⟨b1, 0, none⟩)) (.bool f)
      have E : (Rv (((w1.setCell ⟨w.heap.size + 1, 0, none⟩ (.pointer (some ⟨b0, 0, none⟩))).setCell ⟨w.heap.size + 1, 1, none⟩ (.pointer (some ⟨b1, 0, none⟩))).setCell ⟨w.heap.size + 1, 2, none⟩ (.bool f)) b0 (x : Rat) 2 ∧ Rv (((w1.setCell ⟨w.heap.size + 1, 0, none⟩ (.pointer (some ⟨b0, 0, none⟩))).setCell ⟨w.heap.size + 1, 1, none⟩ (.pointer (some ⟨b1, 0, none⟩))).setCell ⟨w.heap.size + 1, 2, none⟩ (.bool f)) b1 (y : Rat) 2 ∧ W.heap.size ≤ b0 ∧ W.heap.size ≤ b1 ∧ Cl (w.heap.size + 1) [.pointer (some ⟨b0, 0, none⟩), .pointer (some ⟨b1, 0, none⟩), .bool f] 38 (((w1.setCell ⟨w.heap.size + 1, 0, none⟩ (.pointer (some ⟨b0, 0, none⟩))).setCell ⟨w.heap.size + 1, 1, none⟩ (.pointer (some ⟨b1, 0, none⟩))).setCell ⟨w.heap.size + 1, 2, none⟩ (.bool f)) ∧ Upd (w.heap.size + 1) W (((w1.setCell ⟨w.heap.size + 1, 0, none⟩ (.pointer (some ⟨b0, 0, none⟩))).setCell ⟨w.heap.size + 1, 1, none⟩ (.pointer (some ⟨b1, 0, none⟩))).setCell ⟨w.heap.size + 1, 2, none⟩ (.bool f))) := ⟨at_b0.updP U1 D1, at_b1.updP U1 D1, ge_b0, ge_b1, ((D1.set 0 _).set 1 _).set 2 _, (Upd.of_below K).trans U1⟩
      have Z := Nat.le_trans K.size U1.size
      refine hK.out _ _ (fun _ h => absurd rfl h) (Or.inr (Or.inr (Or.inr (Or.inr (Or.inr (Or.inr (Or.inr (Or.inr (Or.inr (Or.inr (Or.inr (Or.inr (Or.inr (Or.inr (⟨b0, n0, b1, n1, rfl, rfl, rfl, Z, E⟩)))))))))))))))
    · obtain ⟨b0, n0, b1, n1, rfl, rfl, rfl, HH⟩ := hI
      obtain ⟨Z, E⟩ := HH.out
      left
      refine ⟨by kernel_rfl, ?_⟩
      obtain ⟨E1, E2, E3, E4, E5, E6⟩ := E
      have z0 := E5.cell 0
      have z1 := E5.cell 1
      have z2 := E5.cell 2
      simp at z0 z1 z2
      have HE : Hid (w.heap.size ≤ b0 ∧ w.heap.size ≤ b1 ∧ Rv w1 b0 (x : Rat) 2 ∧ Rv w1 b1 (y : Rat) 2 ∧ Below w.heap.size w w1) := by
        have h1 := HK0.out.1.size
        have h2 := HK0.out.2
        exact ⟨by omega, by omega, E1, E2, HK0.out.1.trans (E6.below h1 (by omega))⟩
      clear HH E1 E2 E3 E4 E5 E6 Z
      go_wp2
      exact bodyPost_ret (v := .agg #[.pointer (some ⟨b0, 0, none⟩), .pointer (some ⟨b1, 0, none⟩), .bool f]) (by simp [results, Try.results13, go_sem, z0, z1, z2]) rfl ⟨b0, b1, rfl, HE.out⟩

end Go.Proofs.Ytknnidbdgfimbaa
end

section
/- The reference: Plus. Written by mktr.py. -/
set_option linter.unusedSimpArgs false
set_option linter.unusedVariables false
set_option maxRecDepth 100000
namespace Go.Proofs.Ytknnidbdgfimbaa
open Go.RowKit

/-- What Plus holds in memory: the two places, the answer's, and the ratios that it reads. -/
structure Pm (h qx qy rx ry : Nat) (X Y x y : Rat) (m : Nat) (w W : World) : Prop where
  q : Cl h [.pointer (some ⟨qx, 0, none⟩), .pointer (some ⟨qy, 0, none⟩), .bool false] 38 W
  r : Cl (h + 1) [.pointer (some ⟨rx, 0, none⟩), .pointer (some ⟨ry, 0, none⟩), .bool false] 38 W
  o : Cl (h + 2) [.pointer none, .pointer none, .bool false] 38 W
  vX : Rv W qx X m
  vY : Rv W qy Y m
  vx : Rv W rx x m
  vy : Rv W ry y m
  lt : qx < h ∧ qy < h ∧ rx < h ∧ ry < h
  k : Below h w W
theorem Pm.below {h qx qy rx ry : Nat} {X Y x y : Rat} {m : Nat} {w W W' : World} (p : Pm h qx qy rx ry X Y x y m w W) (c : Below W.heap.size W W') : Pm h qx qy rx ry X Y x y m w W' :=
  ⟨p.q.below c, p.r.below c, p.o.below c, p.vX.below c, p.vY.below c, p.vx.below c, p.vy.below c, p.lt, p.k.trans (c.mono (by have := p.q.lt; omega))⟩
theorem Pm.upd {h qx qy rx ry z : Nat} {X Y x y : Rat} {m : Nat} {w W W' : World} (p : Pm h qx qy rx ry X Y x y m w W) (u : Upd z W W') (hz : RSlot W z) (h3 : h + 3 ≤ z) : Pm h qx qy rx ry X Y x y m w W' := by
  obtain ⟨l1, l2, l3, l4⟩ := p.lt
  exact ⟨(u.block _ p.q.lt (by omega)).trans p.q, (u.block _ p.r.lt (by omega)).trans p.r, (u.block _ p.o.lt (by omega)).trans p.o, p.vX.updR u hz (by omega), p.vY.updR u hz (by omega), p.vx.updR u hz (by omega), p.vy.updR u hz (by omega), p.lt, p.k.trans (u.below (by have := p.q.lt; omega) (by omega))⟩
theorem tal3 (w : World) (o1 o2 o3 : Obj) : Below w.heap.size w (((w.alloc o1).alloc o2).alloc o3) :=
  ((tala _ _).trans ((tala _ _).mono (by simp))).trans ((tala _ _).mono (by simp; omega))
theorem Pm.new {qx qy rx ry : Nat} {X Y x y : Rat} {m : Nat} {w : World} (hX : Rv w qx X m) (hY : Rv w qy Y m) (hx : Rv w rx x m) (hy : Rv w ry y m) : Pm w.heap.size qx qy rx ry X Y x y m w
    (((w.alloc (.cells #[.pointer (some ⟨qx, 0, none⟩), .pointer (some ⟨qy, 0, none⟩), .bool false] 38)).alloc (.cells #[.pointer (some ⟨rx, 0, none⟩), .pointer (some ⟨ry, 0, none⟩), .bool false] 38)).alloc (.cells #[.pointer none, .pointer none, .bool false] 38)) := by
  have K := tal3 w (.cells #[.pointer (some ⟨qx, 0, none⟩), .pointer (some ⟨qy, 0, none⟩), .bool false] 38) (.cells #[.pointer (some ⟨rx, 0, none⟩), .pointer (some ⟨ry, 0, none⟩), .bool false] 38) (.cells #[.pointer none, .pointer none, .bool false] 38)
  exact ⟨((Cl.new [.pointer (some ⟨qx, 0, none⟩), .pointer (some ⟨qy, 0, none⟩), .bool false] _ w).alloc _).alloc _, (tcnew _ [.pointer (some ⟨rx, 0, none⟩), .pointer (some ⟨ry, 0, none⟩), .bool false] _ _ (by simp)).alloc _, tcnew _ [.pointer none, .pointer none, .bool false] _ _ (by simp), hX.below K, hY.below K, hx.below K, hy.below K, ⟨hX.lt, hY.lt, hx.lt, hy.lt⟩, K⟩
/-- The cells that Plus reads. -/
abbrev S4p (h qx qy rx ry : Nat) (W : World) : Prop :=
  W.cell? ⟨h, 0, none⟩ = some (.pointer (some ⟨qx, 0, none⟩)) ∧ W.cell? ⟨h, 1, none⟩ = some (.pointer (some ⟨qy, 0, none⟩)) ∧ W.cell? ⟨h, 2, none⟩ = some (.bool false) ∧ W.cell? ⟨h + 1, 0, none⟩ = some (.pointer (some ⟨rx, 0, none⟩)) ∧ W.cell? ⟨h + 1, 1, none⟩ = some (.pointer (some ⟨ry, 0, none⟩)) ∧ W.cell? ⟨h + 1, 2, none⟩ = some (.bool false)
theorem Pm.s {h qx qy rx ry : Nat} {X Y x y : Rat} {m : Nat} {w W : World} (p : Pm h qx qy rx ry X Y x y m w W) : S4p h qx qy rx ry W := ⟨p.q.cell 0, p.q.cell 1, p.q.cell 2, p.r.cell 0, p.r.cell 1, p.r.cell 2⟩
theorem Pm.sa {h qx qy rx ry : Nat} {X Y x y : Rat} {m : Nat} {w W : World} (p : Pm h qx qy rx ry X Y x y m w W) :
    (∀ o : Obj, (W.alloc o).cell? ⟨h, 0, none⟩ = some (.pointer (some ⟨qx, 0, none⟩))) ∧ (∀ o : Obj, (W.alloc o).cell? ⟨h, 1, none⟩ = some (.pointer (some ⟨qy, 0, none⟩))) ∧ (∀ o : Obj, (W.alloc o).cell? ⟨h + 1, 0, none⟩ = some (.pointer (some ⟨rx, 0, none⟩))) ∧ (∀ o : Obj, (W.alloc o).cell? ⟨h + 1, 1, none⟩ = some (.pointer (some ⟨ry, 0, none⟩))) :=
  ⟨fun o => (p.q.alloc o).cell 0, fun o => (p.q.alloc o).cell 1, fun o => (p.r.alloc o).cell 0, fun o => (p.r.alloc o).cell 1⟩
theorem NewRatC (n : Nat) (v : Rat) (i : Int) (w : World) (h1 : 1 ≤ n) (h2 : n < 1000) (hi : i = n) (hv : v = (n : Rat)) :
    Calls Try.prog 30 #[.int .i64 i, .int .i64 1] w fun e w' => ∃ b, e = .returned (.pointer (some ⟨b, 0, none⟩)) ∧ w.heap.size ≤ b ∧ Rv w' b v 2 ∧ Below w.heap.size w w' := by
  subst hi hv
  exact NewRatV n w h1 h2

set_option maxHeartbeats 4000000 in
theorem Plus_far (a : Int) (qx qy rx ry : Nat) (X Y x y : Rat) (m : Nat) (w : World) (hX : Rv w qx X m) (hY : Rv w qy Y m) (hx : Rv w rx x m) (hy : Rv w ry y m) (hm : m ≤ 40000000) (hxx : X = x) (hyy : Y + y = 0) :
    Calls Try.prog 12 #[.int .i64 a, .agg #[.pointer (some ⟨qx, 0, none⟩), .pointer (some ⟨qy, 0, none⟩), .bool false], .agg #[.pointer (some ⟨rx, 0, none⟩), .pointer (some ⟨ry, 0, none⟩), .bool false]] w fun e w' => e = .returned (.agg #[.pointer none, .pointer none, .bool true]) ∧ Below w.heap.size w w' := by
  have HP0 : Hid (Pm w.heap.size qx qy rx ry X Y x y m w _) := Pm.new hX hY hx hy
  clear hX hY hx hy
  go_enter Try.func12, Try.ntmps12
  go_wp2_with fail
  refine (RCmpV qx rx X x m _ (HP0.out.vX.below (tala _ _)) (HP0.out.vx.below (tala _ _)) hm).mono ?_
  rintro e w1 ⟨⟨c, rfl, hc⟩, k1⟩
  have P1 := HP0.out.below ((tala _ _).trans (k1.mono (by simp)))
  have R1 : RSlot w1 (w.heap.size + 3) := RSlot.below (by have := RSlot.new (((w.alloc (.cells #[.pointer (some ⟨qx, 0, none⟩), .pointer (some ⟨qy, 0, none⟩), .bool false] 38)).alloc (.cells #[.pointer (some ⟨rx, 0, none⟩), .pointer (some ⟨ry, 0, none⟩), .bool false] 38)).alloc (.cells #[.pointer none, .pointer none, .bool false] 38)) (.bool false) (.slice none 0 0) (.bool false) (.slice none 0 0); simpa using this) k1
  clear HP0
  have HP : Hid (Pm w.heap.size qx qy rx ry X Y x y m w w1 ∧ RSlot w1 (w.heap.size + 3)) := ⟨P1, R1⟩
  obtain ⟨s0, s1, s2, s3, s4, s5⟩ := P1.s
  obtain ⟨a0, a1, a2, a3⟩ := P1.sa
  clear P1 R1 k1
  have hc0 : (c == 0) = true := beq_iff_eq.2 (hc.2 hxx)
  clear hc
  go_wp2_with fail
  refine (RAddV w1.heap.size qy ry Y y m _ (RSlot.new w1 _ _ _ _) (HP.out.1.vY.below (tala _ _)) (HP.out.1.vy.below (tala _ _)) hm).mono ?_
  rintro e w2 ⟨rfl, v2, u2⟩
  have P2 := (HP.out.1.below (tala w1 (.cells #[.bool false, .slice none 0 0, .bool false, .slice none 0 0] 59))).upd u2 (RSlot.new w1 _ _ _ _) (by have := HP.out.1.o.lt; have := HP.out.2.lt; omega)
  have HP2 : Hid (Pm w.heap.size qx qy rx ry X Y x y m w w2) := P2
  have HV2 : Hid (Rv w2 w1.heap.size (Y + y) (m + m + 1)) := v2
  clear v2 u2 P2 HP s0 s1 s2 s3 s4 s5 a0 a1 a2 a3
  go_wp2_with fail
  refine (RSignV w1.heap.size (Y + y) (m + m + 1) w2 HV2.out).mono ?_
  rintro e w3 ⟨⟨d, rfl, hd⟩, hw3⟩
  rw [hw3]
  clear hw3 w3
  have hd0 : (d == 0) = true := beq_iff_eq.2 (hd.2 hyy)
  have o0 : w2.cell? ⟨w.heap.size + 2, 0, none⟩ = some (.pointer none) := HP2.out.o.cell 0
  have o1 : w2.cell? ⟨w.heap.size + 2, 1, none⟩ = some (.pointer none) := HP2.out.o.cell 1
  have o2 : w2.cell? ⟨w.heap.size + 2, 2, none⟩ = some (.bool false) := HP2.out.o.cell 2
  have f0 := HP2.out.o.frozen 0
  have f1 := HP2.out.o.frozen 1
  have f2 := HP2.out.o.frozen 2
  clear hd
  go_wp2
  have Z := ((HP2.out.o.set 0 (.pointer none)).set 1 (.pointer none)).set 2 (.bool true)
  have z0 := Z.cell 0
  have z1 := Z.cell 1
  have z2 := Z.cell 2
  simp at z0 z1 z2
  refine bodyPost_ret (v := .agg #[.pointer none, .pointer none, .bool true]) (by simp [results, Try.results12, go_sem, z0, z1, z2]) rfl ⟨rfl, ?_⟩
  exact ((HP2.out.k.setCell (by show w.heap.size ≤ w.heap.size + 2; omega) _).setCell (by show w.heap.size ≤ w.heap.size + 2; omega) _).setCell (by show w.heap.size ≤ w.heap.size + 2; omega) _


end Go.Proofs.Ytknnidbdgfimbaa
end
