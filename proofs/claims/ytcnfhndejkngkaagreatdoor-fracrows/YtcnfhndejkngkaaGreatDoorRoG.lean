import Derived.Test.YtcnfhndejkngkaaGreatDoorJpJ
import Derived.Test.YtcnfhndejkngkaaGreatDoorJpK
import Derived.Test.YtcnfhndejkngkaaGreatDoorRaM
import Derived.Test.YtcnfhndejkngkaaGreatDoorJpN
import Derived.Test.YtcnfhndejkngkaaGreatDoorJpO
import Derived.Test.YtcnfhndejkngkaaGreatDoorJpM
import Derived.Test.YtcnfhndejkngkaaGreatDoorJpE
set_option linter.unusedSimpArgs false
set_option linter.unusedVariables false
set_option maxRecDepth 100000
namespace Go.Proofs.YtcnfhndejkngkaaGreatDoor
open Go.RowKit
def Bst (hi : Nat) (a b : Int) (w : World) (v : Value) (m : Nat) : Prop := (m = 0 ∧ v = .pointer none) ∨ (1 ≤ m ∧ ∃ (bb : Nat) (P Q : Int), v = .pointer (some ⟨bb, 0, none⟩) ∧ bb < hi ∧ Rt w bb P Q ∧ FR.Best a b m P Q ∧ P.natAbs < pw 2 ∧ Q.natAbs < pw 2)
theorem Rt.updS {w w' : World} {b z : Nat} {P Q : Int} (h : Rt w b P Q) (u : Upd z w w') (hz : Slot w z) (hne : b ≠ z) : Rt w' b P Q := by
  obtain ⟨⟨s, t, h1, h2, h3⟩, h4, h5⟩ := h
  exact ⟨⟨s, t, (u.block b h1.lt hne).trans h1, h2.upd u hz, h3.upd u hz⟩, h4, h5⟩
theorem RSlot.updS {w w' : World} {b z : Nat} (h : RSlot w b) (u : Upd z w w') (hne : b ≠ z) : RSlot w' b := h.updR u hne
structure Kp (w : World) (hi : Nat) (a b : Int) (v : Value) (m : Nat) (w1 : World) : Prop where
  C : Cl w.heap.size [.int .i64 a, .int .i64 b] 23 w1
  D : Cl (w.heap.size + 1) [.int .i64 0, .int .i64 0] 23 w1
  hi1 : hi ≤ w1.heap.size
  lo : w.heap.size + 2 ≤ hi
  k : Below w.heap.size w w1
  b : Bst hi a b w1 v m
theorem Kp.below {w w1 w2 : World} {hi m : Nat} {a b : Int} {v : Value} (h : Kp w hi a b v m w1) (k : Below w1.heap.size w1 w2) : Kp w hi a b v m w2 := by
  refine ⟨h.C.below k, h.D.below k, Nat.le_trans h.hi1 k.size, h.lo, h.k.trans (k.mono h.k.size), ?_⟩
  rcases h.b with h | ⟨h0, bb, P, Q, h1, h2, h3, h4⟩
  · exact .inl h
  · exact .inr ⟨h0, bb, P, Q, h1, h2, h3.below k, h4⟩
theorem Kp.upd {w w1 w2 : World} {hi m z : Nat} {a b : Int} {v : Value} (h : Kp w hi a b v m w1) (u : Upd z w1 w2) (hs : Slot w1 z) (hz : hi ≤ z) : Kp w hi a b v m w2 := by
  have lo := h.lo
  refine ⟨(u.block _ h.C.lt (by omega)).trans h.C, (u.block _ h.D.lt (by omega)).trans h.D, Nat.le_trans h.hi1 u.size, h.lo, h.k.trans (u.below h.k.size (by omega)), ?_⟩
  rcases h.b with h | ⟨h0, bb, P, Q, h1, h2, h3, h4⟩
  · exact .inl h
  · exact .inr ⟨h0, bb, P, Q, h1, h2, h3.updS u hs (by omega), h4⟩
theorem Kp.updR {w w1 w2 : World} {hi m z : Nat} {a b : Int} {v : Value} (h : Kp w hi a b v m w1) (u : Upd z w1 w2) (hs : RSlot w1 z) (hz : hi ≤ z) : Kp w hi a b v m w2 := by
  have lo := h.lo
  refine ⟨(u.block _ h.C.lt (by omega)).trans h.C, (u.block _ h.D.lt (by omega)).trans h.D, Nat.le_trans h.hi1 u.size, h.lo, h.k.trans (u.below h.k.size (by omega)), ?_⟩
  rcases h.b with h | ⟨h0, bb, P, Q, h1, h2, h3, h4⟩
  · exact .inl h
  · exact .inr ⟨h0, bb, P, Q, h1, h2, h3.updR u hs (by omega), h4⟩
theorem Kp.next {w w1 : World} {hi m d : Nat} {a b : Int} {v v' : Value} (h : Kp w hi a b v m w1) (hb : Bst w1.heap.size a b w1 v' d) : Kp w w1.heap.size a b v' d w1 := ⟨h.C, h.D, Nat.le_refl _, Nat.le_trans h.lo h.hi1, h.k, hb⟩
theorem Rt.lt {w : World} {b : Nat} {P Q : Int} (h : Rt w b P Q) : b < w.heap.size := h.at'.num.lt
theorem best_new' {a b P Q P' Q' : Int} {d : Nat} (hb : 0 < b) (hd : 1 ≤ d) (h : FR.Best a b (d - 1) P Q) (hQ' : 0 < Q') (hq : Q' ≤ (d : Int)) (hv : P' * (d : Int) = (a * (d : Int) / b + 1) * Q') (hl : P' * Q < P * Q') : FR.Best a b d P' Q' := by
  obtain ⟨m, rfl⟩ : ∃ m, d = m + 1 := ⟨d - 1, by omega⟩
  exact FR.best_new hb h hQ' hq hv hl
theorem best_keep' {a b P Q P' Q' : Int} {d : Nat} (hd : 1 ≤ d) (h : FR.Best a b (d - 1) P Q) (hQ' : 0 < Q') (hv : P' * (d : Int) = (a * (d : Int) / b + 1) * Q') (hl : P * Q' ≤ P' * Q) : FR.Best a b d P Q := by
  obtain ⟨m, rfl⟩ : ∃ m, d = m + 1 := ⟨d - 1, by omega⟩
  refine FR.best_keep h ?_
  have hp := h.pos
  have hd0 : (0 : Int) ≤ ((m + 1 : Nat) : Int) := by omega
  generalize ((m + 1 : Nat) : Int) = D at *
  generalize a * D / b + 1 = t at *
  have e1 : D * (P * Q') ≤ D * (P' * Q) := Int.mul_le_mul_of_nonneg_left hl hd0
  refine Int.le_of_mul_le_mul_left (a := Q') ?_ hQ'
  have e2 : Q' * (P * D) = D * (P * Q') := by grind
  have e3 : D * (P' * Q) = Q' * (t * Q) := by
    have : D * (P' * Q) = (P' * D) * Q := by grind
    rw [this, hv]; grind
  omega
theorem gcd_of_det {p q a b : Int} (h : p * b - a * q = 1) : Nat.gcd p.natAbs q.natAbs = 1 := by
  have h1 : ((Nat.gcd p.natAbs q.natAbs : Nat) : Int) ∣ p := Int.ofNat_dvd_left.2 (Nat.gcd_dvd_left _ _)
  have h2 : ((Nat.gcd p.natAbs q.natAbs : Nat) : Int) ∣ q := Int.ofNat_dvd_left.2 (Nat.gcd_dvd_right _ _)
  have h3 : ((Nat.gcd p.natAbs q.natAbs : Nat) : Int) ∣ 1 := by
    rw [← h]
    exact Int.dvd_sub (Int.dvd_trans h1 (Int.dvd_mul_right _ _)) (Int.dvd_trans h2 (Int.dvd_mul_left _ _))
  have h4 := Int.ofNat_dvd_left.1 h3
  exact Nat.dvd_one.1 h4
theorem Sv.ofCl {b : Nat} {c d : Int} {w : World} {t : TypeId} (h : Cl b [.int .i64 c, .int .i64 d] t w) : Sv b c d w := ⟨h.cell 0, h.cell 1, h.frozen 0, h.frozen 1, h.lt⟩
theorem cmpZ_neg {x y : Int} : cmpZ x y < 0 ↔ x < y := by unfold cmpZ; split <;> (try split) <;> omega
theorem best_first {a b P Q : Int} (hb : 0 < b) (hQ : 0 < Q) (hq : Q.natAbs ≤ 1) (hv : P * ((1 : Nat) : Int) = (a * ((1 : Nat) : Int) / b + 1) * Q) : FR.Best a b 1 P Q := by
  obtain rfl : Q = 1 := by omega
  have h := FR.best_one (a := a) hb
  have e : P = a / b + 1 := by
    have : ((1 : Nat) : Int) = 1 := rfl
    rw [this, Int.mul_one, Int.mul_one, Int.mul_one] at hv
    exact hv
  rw [e]; exact h
set_option maxHeartbeats 4000000 in
theorem NextOf_any (up dn p q : Int) (top : Nat) (w : World) (ha : up.natAbs ≤ 1000000) (hb : 1 ≤ dn) (hb6 : dn ≤ 1000000) (hn : top ≤ 1000000) (hpq : p * dn - up * q = 1) (hq : 1 ≤ q) (hqn : q ≤ top) (h2 : (top : Int) < q + dn) (hp : p.natAbs ≤ 2000000000000) :
    Calls Tryz.prog 12 #[.agg #[.int .i64 up, .int .i64 dn], .int .i64 (top : Int)] w fun e w' => e = .returned (.agg #[.int .i64 p, .int .i64 q]) ∧ Below w.heap.size w w' := by
  have HE : Hid (p * dn - up * q = 1 ∧ 1 ≤ q ∧ q ≤ top ∧ (top : Int) < q + dn ∧ p.natAbs ≤ 2000000000000) := ⟨hpq, hq, hqn, h2, hp⟩
  clear hpq hq hqn h2 hp
  have hW : Cl w.heap.size [.int .i64 up, .int .i64 dn] 23 ((w.alloc (.cells #[.int .i64 up, .int .i64 dn] 23)).alloc (.cells #[.int .i64 0, .int .i64 0] 23)) ∧ Cl (w.heap.size + 1) [.int .i64 0, .int .i64 0] 23 ((w.alloc (.cells #[.int .i64 up, .int .i64 dn] 23)).alloc (.cells #[.int .i64 0, .int .i64 0] 23)) ∧ Below w.heap.size w ((w.alloc (.cells #[.int .i64 up, .int .i64 dn] 23)).alloc (.cells #[.int .i64 0, .int .i64 0] 23)) ∧ ((w.alloc (.cells #[.int .i64 up, .int .i64 dn] 23)).alloc (.cells #[.int .i64 0, .int .i64 0] 23)).heap.size = w.heap.size + 2 := by
    have C := Cl.new [.int .i64 up, .int .i64 dn] 23 w
    have D := Cl.new [.int .i64 0, .int .i64 0] 23 (w.alloc (.cells #[.int .i64 up, .int .i64 dn] 23))
    have k1 : Below w.heap.size w (w.alloc (.cells #[.int .i64 up, .int .i64 dn] 23)) := (Below.refl _ _).alloc (Nat.le_refl _) _
    refine ⟨C.below (Below.alloc_self' _ _), by simpa using D, k1.alloc k1.size _, by simp⟩
  obtain ⟨W1, hW1⟩ : ∃ W, W = (w.alloc (.cells #[.int .i64 up, .int .i64 dn] 23)).alloc (.cells #[.int .i64 0, .int .i64 0] 23) := ⟨_, rfl⟩
  rw [← hW1] at hW
  have HW : Hid (Cl w.heap.size [.int .i64 up, .int .i64 dn] 23 W1 ∧ Cl (w.heap.size + 1) [.int .i64 0, .int .i64 0] 23 W1 ∧ Below w.heap.size w W1 ∧ W1.heap.size = w.heap.size + 2) := hW
  clear hW
  go_enter Tryz.func12, Tryz.ntmps12
  go_wp2
  rw [← hW1]
  clear hW1
  go_loopg [5, 6] top (fun gk bv iv wx => ∃ (d : Nat) (v : Value), v = bv ∧ iv = .int .i64 (d : Int) ∧ Hid (gk = top + 1 - d ∧ 1 ≤ d ∧ d ≤ top + 1 ∧ ∃ hi, Kp w hi up dn v (d - 1) wx))
  case atStart => exact ⟨1, _, rfl, rfl, by omega, by omega, by omega, w.heap.size + 2, HW.out.1, HW.out.2.1, Nat.le_of_eq HW.out.2.2.2.symm, Nat.le_refl _, HW.out.2.2.1, .inl ⟨rfl, rfl⟩⟩
  case round =>
    clear HW
    obtain ⟨d, bv, rfl, rfl, HR⟩ := hrel
    obtain ⟨h1, hd1, hd2, hi, kp0⟩ := HR.out
    have C := kp0.C
    have HM : Hid (Kp w hi up dn bv (d - 1) wr) := kp0
    have HG : Hid (gk = top + 1 - d) := h1
    have c0 : wr.cell? ⟨w.heap.size, 0, none⟩ = some (.int .i64 up) ∧ wr.cell? ⟨w.heap.size, 1, none⟩ = some (.int .i64 dn) := ⟨C.cell 0, C.cell 1⟩
    have HS1 : Hid (∀ W', Below wr.heap.size wr W' → W'.cell? ⟨w.heap.size, 0, none⟩ = some (.int .i64 up) ∧ W'.cell? ⟨w.heap.size, 1, none⟩ = some (.int .i64 dn)) := fun W' kb => ⟨(C.below kb).cell 0, (C.below kb).cell 1⟩
    clear HR h1 C kp0
    by_cases hdn : d ≤ top
    · have ti : decide ((d : Int) ≤ (top : Int)) = true := decide_eq_true (by omega)
      have had : (up * (d : Int)).natAbs ≤ 1000000000000 := by rw [Int.natAbs_mul]; exact Nat.mul_le_mul ha (show (d : Int).natAbs ≤ 1000000 by omega)
      have HP : Hid (up.natAbs < pw 2 ∧ (d : Int).natAbs < pw 2 ∧ (up * (d : Int)).natAbs < pw 4 ∧ dn.natAbs < pw 2 ∧ (up * (d : Int)).natAbs ≤ 1000000000000) := by
        have e4 : pw 4 = pw 2 * pw 2 := by rw [show (4 : Nat) = 2 + 2 from rfl, pw_add]
        refine ⟨by rw [pw_two]; omega, by rw [pw_two]; omega, by rw [e4, pw_two]; omega, by rw [pw_two]; omega, had⟩
      clear had
      go_wp2_with fail
      refine wp_region_G (fun w' => w'.cell? ⟨w.heap.size, 0, none⟩ = some (.int .i64 up) ∧ w'.cell? ⟨w.heap.size, 1, none⟩ = some (.int .i64 dn)) 12 (by kernel_rfl) c0 (fun hHeld => ?_)
      refine wpAnyG_take (i := 2) (v := ?v2x1) rfl (by kernel_rfl) (fun _ _ _ h => h) (Or.inl ⟨by rfl, ?y2x1⟩) hHeld ?r2x1
      case y2x1 => (intro wS hSw; obtain ⟨s1, s2⟩ := hSw; go_simp; try with_reducible rfl)
      try simp only [Act.put, List.setIfInBounds_toArray, List.set_cons_zero, List.set_cons_succ]
      refine wpAnyG_take (i := 3) (v := ?v3x2) rfl (by kernel_rfl) (fun _ _ _ h => h) (Or.inl ⟨by rfl, ?y3x2⟩) hHeld ?r3x2
      case y3x2 => (intro wS hSw; obtain ⟨s1, s2⟩ := hSw; go_simp; try with_reducible rfl)
      try simp only [Act.put, List.setIfInBounds_toArray, List.set_cons_zero, List.set_cons_succ]
      refine wpAnyG_take (i := 5) (v := ?v5x3) rfl (by kernel_rfl) (fun _ _ _ h => h) (Or.inl ⟨by rfl, ?y5x3⟩) hHeld ?r5x3
      case y5x3 => (intro wS hSw; obtain ⟨s1, s2⟩ := hSw; go_simp; try with_reducible rfl)
      try simp only [Act.put, List.setIfInBounds_toArray, List.set_cons_zero, List.set_cons_succ]
      refine wpAnyG_take (i := 8) (v := ?v8x4) rfl (by kernel_rfl) (fun _ _ _ h => h) (Or.inl ⟨by rfl, ?y8x4⟩) hHeld ?r8x4
      case y8x4 => (intro wS hSw; obtain ⟨s1, s2⟩ := hSw; go_simp; try with_reducible rfl)
      try simp only [Act.put, List.setIfInBounds_toArray, List.set_cons_zero, List.set_cons_succ]
      refine wpAnyG_take (i := 9) (v := ?v9x5) rfl (by kernel_rfl) (fun _ _ _ h => h) (Or.inl ⟨by rfl, ?y9x5⟩) hHeld ?r9x5
      case y9x5 => (intro wS hSw; obtain ⟨s1, s2⟩ := hSw; go_simp; try with_reducible rfl)
      try simp only [Act.put, List.setIfInBounds_toArray, List.set_cons_zero, List.set_cons_succ]
      clear hHeld
      refine wpAnyG_inv (fun n l a w1 => ∃ x7 x14 x15 x18 x20 x21 x24 x25 : Value, a = { tmps := ((.agg #[.int .i64 up, .int .i64 dn]) :: (.int .i64 (top : Int)) :: (.pointer (some ⟨w.heap.size, 0, none⟩)) :: (undef) :: (.pointer (some ⟨(w.heap.size + 1), 0, none⟩)) :: (bv) :: (.int .i64 (d : Int)) :: (x7) :: (u8) :: (.int .i64 (d : Int)) :: (.int .i64 (top : Int)) :: (.bool true) :: (u12) :: (u13) :: (x14) :: (x15) :: (.pointer (some ⟨w.heap.size, 0, none⟩)) :: (.int .i64 up) :: (x18) :: (.int .i64 (d : Int)) :: (x20) :: (x21) :: (.pointer (some ⟨w.heap.size, 1, none⟩)) :: (.int .i64 dn) :: (x24) :: (x25) :: (u26) :: (u27) :: (u28) :: (u29) :: (u30) :: (u31) :: (u32) :: (u33) :: (u34) :: (u35) :: (u36) :: (u37) :: (u38) :: (u39) :: (u40) :: (u41) :: (u42) :: (undef) :: (undef) :: (undef) :: (undef) :: (undef) :: (undef) :: (undef) :: []).toArray, defers := [] } ∧ (((((n = 8 ∧ l = #[false, false, true, true, false, true, false, false, true, true, false, false, false] ∧ x7 = u7 ∧ x14 = u14 ∧ x15 = u15 ∧ x18 = u18 ∧ x20 = u20 ∧ x21 = u21 ∧ x24 = u24 ∧ x25 = u25 ∧ Hid (Below wr.heap.size wr w1)) ∨ (∃ z1 : Nat, n = 7 ∧ l = #[true, false, true, true, false, true, false, false, true, true, false, false, false] ∧ x7 = u7 ∧ x14 = .pointer (some ⟨z1, 0, none⟩) ∧ x15 = u15 ∧ x18 = u18 ∧ x20 = u20 ∧ x21 = u21 ∧ x24 = u24 ∧ x25 = u25 ∧ Hid (Below wr.heap.size wr w1 ∧ wr.heap.size ≤ z1 ∧ Slot w1 z1))) ∨ ((∃ z2 : Nat, n = 7 ∧ l = #[false, true, true, true, false, true, false, false, true, true, false, false, false] ∧ x7 = u7 ∧ x14 = u14 ∧ x15 = .pointer (some ⟨z2, 0, none⟩) ∧ x18 = u18 ∧ x20 = u20 ∧ x21 = u21 ∧ x24 = u24 ∧ x25 = u25 ∧ Hid (Below wr.heap.size wr w1 ∧ wr.heap.size ≤ z2 ∧ Slot w1 z2)) ∨ (∃ n0 : Nat, n = 7 ∧ l = #[false, false, true, true, true, true, false, false, true, true, false, false, false] ∧ x7 = u7 ∧ x14 = u14 ∧ x15 = u15 ∧ x18 = .pointer (some ⟨n0, 0, none⟩) ∧ x20 = u20 ∧ x21 = u21 ∧ x24 = u24 ∧ x25 = u25 ∧ Hid (Below wr.heap.size wr w1 ∧ wr.heap.size ≤ n0 ∧ BigAt w1 n0 up)))) ∨ (((∃ z1 z2 : Nat, n = 6 ∧ l = #[true, true, true, true, false, true, false, false, true, true, false, false, false] ∧ x7 = u7 ∧ x14 = .pointer (some ⟨z1, 0, none⟩) ∧ x15 = .pointer (some ⟨z2, 0, none⟩) ∧ x18 = u18 ∧ x20 = u20 ∧ x21 = u21 ∧ x24 = u24 ∧ x25 = u25 ∧ Hid (Below wr.heap.size wr w1 ∧ wr.heap.size ≤ z1 ∧ Slot w1 z1 ∧ wr.heap.size ≤ z2 ∧ Slot w1 z2 ∧ z1 ≠ z2)) ∨ (∃ z1 n0 : Nat, n = 6 ∧ l = #[true, false, true, true, true, true, false, false, true, true, false, false, false] ∧ x7 = u7 ∧ x14 = .pointer (some ⟨z1, 0, none⟩) ∧ x15 = u15 ∧ x18 = .pointer (some ⟨n0, 0, none⟩) ∧ x20 = u20 ∧ x21 = u21 ∧ x24 = u24 ∧ x25 = u25 ∧ Hid (Below wr.heap.size wr w1 ∧ wr.heap.size ≤ z1 ∧ Slot w1 z1 ∧ wr.heap.size ≤ n0 ∧ BigAt w1 n0 up ∧ z1 ≠ n0))) ∨ ((∃ z2 n0 : Nat, n = 6 ∧ l = #[false, true, true, true, true, true, false, false, true, true, false, false, false] ∧ x7 = u7 ∧ x14 = u14 ∧ x15 = .pointer (some ⟨z2, 0, none⟩) ∧ x18 = .pointer (some ⟨n0, 0, none⟩) ∧ x20 = u20 ∧ x21 = u21 ∧ x24 = u24 ∧ x25 = u25 ∧ Hid (Below wr.heap.size wr w1 ∧ wr.heap.size ≤ z2 ∧ Slot w1 z2 ∧ wr.heap.size ≤ n0 ∧ BigAt w1 n0 up ∧ z2 ≠ n0)) ∨ ((∃ n0 n1 : Nat, n = 6 ∧ l = #[false, false, true, true, true, true, true, false, true, true, false, false, false] ∧ x7 = u7 ∧ x14 = u14 ∧ x15 = u15 ∧ x18 = .pointer (some ⟨n0, 0, none⟩) ∧ x20 = .pointer (some ⟨n1, 0, none⟩) ∧ x21 = u21 ∧ x24 = u24 ∧ x25 = u25 ∧ Hid (Below wr.heap.size wr w1 ∧ wr.heap.size ≤ n0 ∧ BigAt w1 n0 up ∧ wr.heap.size ≤ n1 ∧ BigAt w1 n1 (d : Int) ∧ n0 ≠ n1)) ∨ (∃ z1 z2 n0 : Nat, n = 5 ∧ l = #[true, true, true, true, true, true, false, false, true, true, false, false, false] ∧ x7 = u7 ∧ x14 = .pointer (some ⟨z1, 0, none⟩) ∧ x15 = .pointer (some ⟨z2, 0, none⟩) ∧ x18 = .pointer (some ⟨n0, 0, none⟩) ∧ x20 = u20 ∧ x21 = u21 ∧ x24 = u24 ∧ x25 = u25 ∧ Hid (Below wr.heap.size wr w1 ∧ wr.heap.size ≤ z1 ∧ Slot w1 z1 ∧ wr.heap.size ≤ z2 ∧ Slot w1 z2 ∧ wr.heap.size ≤ n0 ∧ BigAt w1 n0 up ∧ z1 ≠ z2 ∧ z1 ≠ n0 ∧ z2 ≠ n0)))))) ∨ ((((∃ z1 n0 n1 : Nat, n = 5 ∧ l = #[true, false, true, true, true, true, true, false, true, true, false, false, false] ∧ x7 = u7 ∧ x14 = .pointer (some ⟨z1, 0, none⟩) ∧ x15 = u15 ∧ x18 = .pointer (some ⟨n0, 0, none⟩) ∧ x20 = .pointer (some ⟨n1, 0, none⟩) ∧ x21 = u21 ∧ x24 = u24 ∧ x25 = u25 ∧ Hid (Below wr.heap.size wr w1 ∧ wr.heap.size ≤ z1 ∧ Slot w1 z1 ∧ wr.heap.size ≤ n0 ∧ BigAt w1 n0 up ∧ wr.heap.size ≤ n1 ∧ BigAt w1 n1 (d : Int) ∧ z1 ≠ n0 ∧ z1 ≠ n1 ∧ n0 ≠ n1)) ∨ (∃ z2 n0 n1 : Nat, n = 5 ∧ l = #[false, true, true, true, true, true, true, false, true, true, false, false, false] ∧ x7 = u7 ∧ x14 = u14 ∧ x15 = .pointer (some ⟨z2, 0, none⟩) ∧ x18 = .pointer (some ⟨n0, 0, none⟩) ∧ x20 = .pointer (some ⟨n1, 0, none⟩) ∧ x21 = u21 ∧ x24 = u24 ∧ x25 = u25 ∧ Hid (Below wr.heap.size wr w1 ∧ wr.heap.size ≤ z2 ∧ Slot w1 z2 ∧ wr.heap.size ≤ n0 ∧ BigAt w1 n0 up ∧ wr.heap.size ≤ n1 ∧ BigAt w1 n1 (d : Int) ∧ z2 ≠ n0 ∧ z2 ≠ n1 ∧ n0 ≠ n1))) ∨ ((∃ z1 z2 n0 n1 : Nat, n = 4 ∧ l = #[true, true, true, true, true, true, true, false, true, true, false, false, false] ∧ x7 = u7 ∧ x14 = .pointer (some ⟨z1, 0, none⟩) ∧ x15 = .pointer (some ⟨z2, 0, none⟩) ∧ x18 = .pointer (some ⟨n0, 0, none⟩) ∧ x20 = .pointer (some ⟨n1, 0, none⟩) ∧ x21 = u21 ∧ x24 = u24 ∧ x25 = u25 ∧ Hid (Below wr.heap.size wr w1 ∧ wr.heap.size ≤ z1 ∧ Slot w1 z1 ∧ wr.heap.size ≤ z2 ∧ Slot w1 z2 ∧ wr.heap.size ≤ n0 ∧ BigAt w1 n0 up ∧ wr.heap.size ≤ n1 ∧ BigAt w1 n1 (d : Int) ∧ z1 ≠ z2 ∧ z1 ≠ n0 ∧ z1 ≠ n1 ∧ z2 ≠ n0 ∧ z2 ≠ n1 ∧ n0 ≠ n1)) ∨ (∃ z2 n0 n1 : Nat, n = 4 ∧ l = #[false, true, true, true, true, true, true, true, true, true, false, false, false] ∧ x7 = u7 ∧ x14 = u14 ∧ x15 = .pointer (some ⟨z2, 0, none⟩) ∧ x18 = .pointer (some ⟨n0, 0, none⟩) ∧ x20 = .pointer (some ⟨n1, 0, none⟩) ∧ x21 = .pointer (some ⟨z2, 0, none⟩) ∧ x24 = u24 ∧ x25 = u25 ∧ Hid (Below wr.heap.size wr w1 ∧ wr.heap.size ≤ z2 ∧ BigAt w1 z2 (up * (d : Int)) ∧ wr.heap.size ≤ n0 ∧ BigAt w1 n0 up ∧ wr.heap.size ≤ n1 ∧ BigAt w1 n1 (d : Int) ∧ z2 ≠ n0 ∧ z2 ≠ n1 ∧ n0 ≠ n1)))) ∨ (((∃ z1 z2 n0 n1 : Nat, n = 3 ∧ l = #[true, true, true, true, true, true, true, true, true, true, false, false, false] ∧ x7 = u7 ∧ x14 = .pointer (some ⟨z1, 0, none⟩) ∧ x15 = .pointer (some ⟨z2, 0, none⟩) ∧ x18 = .pointer (some ⟨n0, 0, none⟩) ∧ x20 = .pointer (some ⟨n1, 0, none⟩) ∧ x21 = .pointer (some ⟨z2, 0, none⟩) ∧ x24 = u24 ∧ x25 = u25 ∧ Hid (Below wr.heap.size wr w1 ∧ wr.heap.size ≤ z1 ∧ Slot w1 z1 ∧ wr.heap.size ≤ z2 ∧ BigAt w1 z2 (up * (d : Int)) ∧ wr.heap.size ≤ n0 ∧ BigAt w1 n0 up ∧ wr.heap.size ≤ n1 ∧ BigAt w1 n1 (d : Int) ∧ z1 ≠ z2 ∧ z1 ≠ n0 ∧ z1 ≠ n1 ∧ z2 ≠ n0 ∧ z2 ≠ n1 ∧ n0 ≠ n1)) ∨ (∃ z2 n0 n1 n2 : Nat, n = 3 ∧ l = #[false, true, true, true, true, true, true, true, true, true, true, false, false] ∧ x7 = u7 ∧ x14 = u14 ∧ x15 = .pointer (some ⟨z2, 0, none⟩) ∧ x18 = .pointer (some ⟨n0, 0, none⟩) ∧ x20 = .pointer (some ⟨n1, 0, none⟩) ∧ x21 = .pointer (some ⟨z2, 0, none⟩) ∧ x24 = .pointer (some ⟨n2, 0, none⟩) ∧ x25 = u25 ∧ Hid (Below wr.heap.size wr w1 ∧ wr.heap.size ≤ z2 ∧ BigAt w1 z2 (up * (d : Int)) ∧ wr.heap.size ≤ n0 ∧ BigAt w1 n0 up ∧ wr.heap.size ≤ n1 ∧ BigAt w1 n1 (d : Int) ∧ wr.heap.size ≤ n2 ∧ BigAt w1 n2 dn ∧ z2 ≠ n0 ∧ z2 ≠ n1 ∧ z2 ≠ n2 ∧ n0 ≠ n1 ∧ n0 ≠ n2 ∧ n1 ≠ n2))) ∨ ((∃ z1 z2 n0 n1 n2 : Nat, n = 2 ∧ l = #[true, true, true, true, true, true, true, true, true, true, true, false, false] ∧ x7 = u7 ∧ x14 = .pointer (some ⟨z1, 0, none⟩) ∧ x15 = .pointer (some ⟨z2, 0, none⟩) ∧ x18 = .pointer (some ⟨n0, 0, none⟩) ∧ x20 = .pointer (some ⟨n1, 0, none⟩) ∧ x21 = .pointer (some ⟨z2, 0, none⟩) ∧ x24 = .pointer (some ⟨n2, 0, none⟩) ∧ x25 = u25 ∧ Hid (Below wr.heap.size wr w1 ∧ wr.heap.size ≤ z1 ∧ Slot w1 z1 ∧ wr.heap.size ≤ z2 ∧ BigAt w1 z2 (up * (d : Int)) ∧ wr.heap.size ≤ n0 ∧ BigAt w1 n0 up ∧ wr.heap.size ≤ n1 ∧ BigAt w1 n1 (d : Int) ∧ wr.heap.size ≤ n2 ∧ BigAt w1 n2 dn ∧ z1 ≠ z2 ∧ z1 ≠ n0 ∧ z1 ≠ n1 ∧ z1 ≠ n2 ∧ z2 ≠ n0 ∧ z2 ≠ n1 ∧ z2 ≠ n2 ∧ n0 ≠ n1 ∧ n0 ≠ n2 ∧ n1 ≠ n2)) ∨ ((∃ z1 z2 n0 n1 n2 : Nat, n = 1 ∧ l = #[true, true, true, true, true, true, true, true, true, true, true, true, false] ∧ x7 = u7 ∧ x14 = .pointer (some ⟨z1, 0, none⟩) ∧ x15 = .pointer (some ⟨z2, 0, none⟩) ∧ x18 = .pointer (some ⟨n0, 0, none⟩) ∧ x20 = .pointer (some ⟨n1, 0, none⟩) ∧ x21 = .pointer (some ⟨z2, 0, none⟩) ∧ x24 = .pointer (some ⟨n2, 0, none⟩) ∧ x25 = .pointer (some ⟨z1, 0, none⟩) ∧ Hid (Below wr.heap.size wr w1 ∧ wr.heap.size ≤ z1 ∧ BigAt w1 z1 (up * (d : Int) / dn) ∧ wr.heap.size ≤ z2 ∧ BigAt w1 z2 (up * (d : Int)) ∧ wr.heap.size ≤ n0 ∧ BigAt w1 n0 up ∧ wr.heap.size ≤ n1 ∧ BigAt w1 n1 (d : Int) ∧ wr.heap.size ≤ n2 ∧ BigAt w1 n2 dn ∧ z1 ≠ z2 ∧ z1 ≠ n0 ∧ z1 ≠ n1 ∧ z1 ≠ n2 ∧ z2 ≠ n0 ∧ z2 ≠ n1 ∧ z2 ≠ n2 ∧ n0 ≠ n1 ∧ n0 ≠ n2 ∧ n1 ≠ n2)) ∨ (∃ z1 z2 n0 n1 n2 : Nat, n = 0 ∧ l = #[true, true, true, true, true, true, true, true, true, true, true, true, true] ∧ x7 = .pointer (some ⟨z1, 0, none⟩) ∧ x14 = .pointer (some ⟨z1, 0, none⟩) ∧ x15 = .pointer (some ⟨z2, 0, none⟩) ∧ x18 = .pointer (some ⟨n0, 0, none⟩) ∧ x20 = .pointer (some ⟨n1, 0, none⟩) ∧ x21 = .pointer (some ⟨z2, 0, none⟩) ∧ x24 = .pointer (some ⟨n2, 0, none⟩) ∧ x25 = .pointer (some ⟨z1, 0, none⟩) ∧ Hid (Below wr.heap.size wr w1 ∧ wr.heap.size ≤ z1 ∧ BigAt w1 z1 (up * (d : Int) / dn) ∧ wr.heap.size ≤ z2 ∧ BigAt w1 z2 (up * (d : Int)) ∧ wr.heap.size ≤ n0 ∧ BigAt w1 n0 up ∧ wr.heap.size ≤ n1 ∧ BigAt w1 n1 (d : Int) ∧ wr.heap.size ≤ n2 ∧ BigAt w1 n2 dn ∧ z1 ≠ z2 ∧ z1 ≠ n0 ∧ z1 ≠ n1 ∧ z1 ≠ n2 ∧ z2 ≠ n0 ∧ z2 ≠ n1 ∧ z2 ≠ n2 ∧ n0 ≠ n1 ∧ n0 ≠ n2 ∧ n1 ≠ n2)))))))) ?steps _ _ _ _ ?start
      case start => exact ⟨_, _, _, _, _, _, _, _, rfl, .inl (.inl (.inl (.inl (⟨rfl, rfl, rfl, rfl, rfl, rfl, rfl, rfl, rfl, rfl, (Below.refl wr.heap.size wr).drew⟩))))⟩
      case steps =>
        intro n l a w1 hI
        obtain ⟨x7, x14, x15, x18, x20, x21, x24, x25, rfl, hI⟩ := hI
        rcases hI with ((((hI | hI) | (hI | hI)) | ((hI | hI) | (hI | (hI | hI)))) | (((hI | hI) | (hI | hI)) | ((hI | hI) | (hI | (hI | hI)))))
        · obtain ⟨rfl, rfl, rfl, rfl, rfl, rfl, rfl, rfl, rfl, rfl, HH⟩ := hI
          right
          refine ⟨7, [0, 1, 4], rfl, by kernel_rfl, by simp, fun i hi => ?_⟩
          simp only [List.mem_cons, List.not_mem_nil, or_false] at hi
          rcases hi with rfl | rfl | rfl
          · refine ⟨_, rfl, fun K' hK => ?_⟩
            go_simp
            have K := HH.out
            refine hK.out _ _ (fun _ _ => (HS1.out _ (K.alloc K.size _))) (⟨_, _, _, _, _, _, _, _, rfl, .inl (.inl (.inl (.inr (⟨w1.heap.size, rfl, rfl, rfl, rfl, rfl, rfl, rfl, rfl, rfl, rfl, K.alloc K.size _, K.size, slot_new w1 _ _⟩))))⟩)
          · refine ⟨_, rfl, fun K' hK => ?_⟩
            go_simp
            have K := HH.out
            refine hK.out _ _ (fun _ _ => (HS1.out _ (K.alloc K.size _))) (⟨_, _, _, _, _, _, _, _, rfl, .inl (.inl (.inr (.inl (⟨w1.heap.size, rfl, rfl, rfl, rfl, rfl, rfl, rfl, rfl, rfl, rfl, K.alloc K.size _, K.size, slot_new w1 _ _⟩))))⟩)
          · refine ⟨_, rfl, fun K' hK => ?_⟩
            go_simp
            have K := HH.out
            refine (B_any up w1 (by omega) (by omega)).mono ?_
            rintro e w2 ⟨n0, rfl, m2⟩
            refine hK.out _ _ (fun _ _ => (HS1.out _ (K.trans (m2.2.2.mono K.size)))) (⟨_, _, _, _, _, _, _, _, rfl, .inl (.inl (.inr (.inr (⟨n0, rfl, rfl, rfl, rfl, rfl, rfl, rfl, rfl, rfl, rfl, (K.trans (m2.2.2.mono K.size)), (Nat.le_trans K.size m2.1), m2.2.1⟩))))⟩)
        · obtain ⟨z1, rfl, rfl, rfl, rfl, rfl, rfl, rfl, rfl, rfl, rfl, HH⟩ := hI
          right
          refine ⟨6, [1, 4], rfl, by kernel_rfl, by simp, fun i hi => ?_⟩
          simp only [List.mem_cons, List.not_mem_nil, or_false] at hi
          rcases hi with rfl | rfl
          · refine ⟨_, rfl, fun K' hK => ?_⟩
            go_simp
            obtain ⟨K, ge_z1, at_z1⟩ := HH.out
            refine hK.out _ _ (fun _ _ => (HS1.out _ (K.alloc K.size _))) (⟨_, _, _, _, _, _, _, _, rfl, .inl (.inr (.inl (.inl (⟨z1, w1.heap.size, rfl, rfl, rfl, rfl, rfl, rfl, rfl, rfl, rfl, rfl, K.alloc K.size _, ge_z1, at_z1.below (Below.alloc_self' w1 _) (Nat.le_refl _), K.size, slot_new w1 _ _, (Nat.ne_of_lt at_z1.lt)⟩))))⟩)
          · refine ⟨_, rfl, fun K' hK => ?_⟩
            go_simp
            obtain ⟨K, ge_z1, at_z1⟩ := HH.out
            refine (B_any up w1 (by omega) (by omega)).mono ?_
            rintro e w2 ⟨n0, rfl, m2⟩
            refine hK.out _ _ (fun _ _ => (HS1.out _ (K.trans (m2.2.2.mono K.size)))) (⟨_, _, _, _, _, _, _, _, rfl, .inl (.inr (.inl (.inr (⟨z1, n0, rfl, rfl, rfl, rfl, rfl, rfl, rfl, rfl, rfl, rfl, (K.trans (m2.2.2.mono K.size)), ge_z1, at_z1.below m2.2.2 (Nat.le_refl _), (Nat.le_trans K.size m2.1), m2.2.1, (Nat.ne_of_lt (Nat.lt_of_lt_of_le at_z1.lt m2.1))⟩))))⟩)
        · obtain ⟨z2, rfl, rfl, rfl, rfl, rfl, rfl, rfl, rfl, rfl, rfl, HH⟩ := hI
          right
          refine ⟨6, [0, 4], rfl, by kernel_rfl, by simp, fun i hi => ?_⟩
          simp only [List.mem_cons, List.not_mem_nil, or_false] at hi
          rcases hi with rfl | rfl
          · refine ⟨_, rfl, fun K' hK => ?_⟩
            go_simp
            obtain ⟨K, ge_z2, at_z2⟩ := HH.out
            refine hK.out _ _ (fun _ _ => (HS1.out _ (K.alloc K.size _))) (⟨_, _, _, _, _, _, _, _, rfl, .inl (.inr (.inl (.inl (⟨w1.heap.size, z2, rfl, rfl, rfl, rfl, rfl, rfl, rfl, rfl, rfl, rfl, K.alloc K.size _, K.size, slot_new w1 _ _, ge_z2, at_z2.below (Below.alloc_self' w1 _) (Nat.le_refl _), (Nat.ne_of_gt at_z2.lt)⟩))))⟩)
          · refine ⟨_, rfl, fun K' hK => ?_⟩
            go_simp
            obtain ⟨K, ge_z2, at_z2⟩ := HH.out
            refine (B_any up w1 (by omega) (by omega)).mono ?_
            rintro e w2 ⟨n0, rfl, m2⟩
            refine hK.out _ _ (fun _ _ => (HS1.out _ (K.trans (m2.2.2.mono K.size)))) (⟨_, _, _, _, _, _, _, _, rfl, .inl (.inr (.inr (.inl (⟨z2, n0, rfl, rfl, rfl, rfl, rfl, rfl, rfl, rfl, rfl, rfl, (K.trans (m2.2.2.mono K.size)), ge_z2, at_z2.below m2.2.2 (Nat.le_refl _), (Nat.le_trans K.size m2.1), m2.2.1, (Nat.ne_of_lt (Nat.lt_of_lt_of_le at_z2.lt m2.1))⟩))))⟩)
        · obtain ⟨n0, rfl, rfl, rfl, rfl, rfl, rfl, rfl, rfl, rfl, rfl, HH⟩ := hI
          right
          refine ⟨6, [0, 1, 6], rfl, by kernel_rfl, by simp, fun i hi => ?_⟩
          simp only [List.mem_cons, List.not_mem_nil, or_false] at hi
          rcases hi with rfl | rfl | rfl
          · refine ⟨_, rfl, fun K' hK => ?_⟩
            go_simp
            obtain ⟨K, ge_n0, at_n0⟩ := HH.out
            refine hK.out _ _ (fun _ _ => (HS1.out _ (K.alloc K.size _))) (⟨_, _, _, _, _, _, _, _, rfl, .inl (.inr (.inl (.inr (⟨w1.heap.size, n0, rfl, rfl, rfl, rfl, rfl, rfl, rfl, rfl, rfl, rfl, K.alloc K.size _, K.size, slot_new w1 _ _, ge_n0, at_n0.below (Below.alloc_self' w1 _) (Nat.le_refl _), (Nat.ne_of_gt at_n0.lt)⟩))))⟩)
          · refine ⟨_, rfl, fun K' hK => ?_⟩
            go_simp
            obtain ⟨K, ge_n0, at_n0⟩ := HH.out
            refine hK.out _ _ (fun _ _ => (HS1.out _ (K.alloc K.size _))) (⟨_, _, _, _, _, _, _, _, rfl, .inl (.inr (.inr (.inl (⟨w1.heap.size, n0, rfl, rfl, rfl, rfl, rfl, rfl, rfl, rfl, rfl, rfl, K.alloc K.size _, K.size, slot_new w1 _ _, ge_n0, at_n0.below (Below.alloc_self' w1 _) (Nat.le_refl _), (Nat.ne_of_gt at_n0.lt)⟩))))⟩)
          · refine ⟨_, rfl, fun K' hK => ?_⟩
            go_simp
            obtain ⟨K, ge_n0, at_n0⟩ := HH.out
            refine (B_any (d : Int) w1 (by omega) (by omega)).mono ?_
            rintro e w2 ⟨n1, rfl, m2⟩
            refine hK.out _ _ (fun _ _ => (HS1.out _ (K.trans (m2.2.2.mono K.size)))) (⟨_, _, _, _, _, _, _, _, rfl, .inl (.inr (.inr (.inr (.inl (⟨n0, n1, rfl, rfl, rfl, rfl, rfl, rfl, rfl, rfl, rfl, rfl, (K.trans (m2.2.2.mono K.size)), ge_n0, at_n0.below m2.2.2 (Nat.le_refl _), (Nat.le_trans K.size m2.1), m2.2.1, (Nat.ne_of_lt (Nat.lt_of_lt_of_le at_n0.lt m2.1))⟩)))))⟩)
        · obtain ⟨z1, z2, rfl, rfl, rfl, rfl, rfl, rfl, rfl, rfl, rfl, rfl, HH⟩ := hI
          right
          refine ⟨5, [4], rfl, by kernel_rfl, by simp, fun i hi => ?_⟩
          simp only [List.mem_cons, List.not_mem_nil, or_false] at hi
          subst hi
          refine ⟨_, rfl, fun K' hK => ?_⟩
          go_simp
          obtain ⟨K, ge_z1, at_z1, ge_z2, at_z2, ne_z1_z2⟩ := HH.out
          refine (B_any up w1 (by omega) (by omega)).mono ?_
          rintro e w2 ⟨n0, rfl, m2⟩
          refine hK.out _ _ (fun _ _ => (HS1.out _ (K.trans (m2.2.2.mono K.size)))) (⟨_, _, _, _, _, _, _, _, rfl, .inl (.inr (.inr (.inr (.inr (⟨z1, z2, n0, rfl, rfl, rfl, rfl, rfl, rfl, rfl, rfl, rfl, rfl, (K.trans (m2.2.2.mono K.size)), ge_z1, at_z1.below m2.2.2 (Nat.le_refl _), ge_z2, at_z2.below m2.2.2 (Nat.le_refl _), (Nat.le_trans K.size m2.1), m2.2.1, ne_z1_z2, (Nat.ne_of_lt (Nat.lt_of_lt_of_le at_z1.lt m2.1)), (Nat.ne_of_lt (Nat.lt_of_lt_of_le at_z2.lt m2.1))⟩)))))⟩)
        · obtain ⟨z1, n0, rfl, rfl, rfl, rfl, rfl, rfl, rfl, rfl, rfl, rfl, HH⟩ := hI
          right
          refine ⟨5, [1, 6], rfl, by kernel_rfl, by simp, fun i hi => ?_⟩
          simp only [List.mem_cons, List.not_mem_nil, or_false] at hi
          rcases hi with rfl | rfl
          · refine ⟨_, rfl, fun K' hK => ?_⟩
            go_simp
            obtain ⟨K, ge_z1, at_z1, ge_n0, at_n0, ne_z1_n0⟩ := HH.out
            refine hK.out _ _ (fun _ _ => (HS1.out _ (K.alloc K.size _))) (⟨_, _, _, _, _, _, _, _, rfl, .inl (.inr (.inr (.inr (.inr (⟨z1, w1.heap.size, n0, rfl, rfl, rfl, rfl, rfl, rfl, rfl, rfl, rfl, rfl, K.alloc K.size _, ge_z1, at_z1.below (Below.alloc_self' w1 _) (Nat.le_refl _), K.size, slot_new w1 _ _, ge_n0, at_n0.below (Below.alloc_self' w1 _) (Nat.le_refl _), (Nat.ne_of_lt at_z1.lt), ne_z1_n0, (Nat.ne_of_gt at_n0.lt)⟩)))))⟩)
          · refine ⟨_, rfl, fun K' hK => ?_⟩
            go_simp
            obtain ⟨K, ge_z1, at_z1, ge_n0, at_n0, ne_z1_n0⟩ := HH.out
            refine (B_any (d : Int) w1 (by omega) (by omega)).mono ?_
            rintro e w2 ⟨n1, rfl, m2⟩
            refine hK.out _ _ (fun _ _ => (HS1.out _ (K.trans (m2.2.2.mono K.size)))) (⟨_, _, _, _, _, _, _, _, rfl, .inr (.inl (.inl (.inl (⟨z1, n0, n1, rfl, rfl, rfl, rfl, rfl, rfl, rfl, rfl, rfl, rfl, (K.trans (m2.2.2.mono K.size)), ge_z1, at_z1.below m2.2.2 (Nat.le_refl _), ge_n0, at_n0.below m2.2.2 (Nat.le_refl _), (Nat.le_trans K.size m2.1), m2.2.1, ne_z1_n0, (Nat.ne_of_lt (Nat.lt_of_lt_of_le at_z1.lt m2.1)), (Nat.ne_of_lt (Nat.lt_of_lt_of_le at_n0.lt m2.1))⟩))))⟩)
        · obtain ⟨z2, n0, rfl, rfl, rfl, rfl, rfl, rfl, rfl, rfl, rfl, rfl, HH⟩ := hI
          right
          refine ⟨5, [0, 6], rfl, by kernel_rfl, by simp, fun i hi => ?_⟩
          simp only [List.mem_cons, List.not_mem_nil, or_false] at hi
          rcases hi with rfl | rfl
          · refine ⟨_, rfl, fun K' hK => ?_⟩
            go_simp
            obtain ⟨K, ge_z2, at_z2, ge_n0, at_n0, ne_z2_n0⟩ := HH.out
            refine hK.out _ _ (fun _ _ => (HS1.out _ (K.alloc K.size _))) (⟨_, _, _, _, _, _, _, _, rfl, .inl (.inr (.inr (.inr (.inr (⟨w1.heap.size, z2, n0, rfl, rfl, rfl, rfl, rfl, rfl, rfl, rfl, rfl, rfl, K.alloc K.size _, K.size, slot_new w1 _ _, ge_z2, at_z2.below (Below.alloc_self' w1 _) (Nat.le_refl _), ge_n0, at_n0.below (Below.alloc_self' w1 _) (Nat.le_refl _), (Nat.ne_of_gt at_z2.lt), (Nat.ne_of_gt at_n0.lt), ne_z2_n0⟩)))))⟩)
          · refine ⟨_, rfl, fun K' hK => ?_⟩
            go_simp
            obtain ⟨K, ge_z2, at_z2, ge_n0, at_n0, ne_z2_n0⟩ := HH.out
            refine (B_any (d : Int) w1 (by omega) (by omega)).mono ?_
            rintro e w2 ⟨n1, rfl, m2⟩
            refine hK.out _ _ (fun _ _ => (HS1.out _ (K.trans (m2.2.2.mono K.size)))) (⟨_, _, _, _, _, _, _, _, rfl, .inr (.inl (.inl (.inr (⟨z2, n0, n1, rfl, rfl, rfl, rfl, rfl, rfl, rfl, rfl, rfl, rfl, (K.trans (m2.2.2.mono K.size)), ge_z2, at_z2.below m2.2.2 (Nat.le_refl _), ge_n0, at_n0.below m2.2.2 (Nat.le_refl _), (Nat.le_trans K.size m2.1), m2.2.1, ne_z2_n0, (Nat.ne_of_lt (Nat.lt_of_lt_of_le at_z2.lt m2.1)), (Nat.ne_of_lt (Nat.lt_of_lt_of_le at_n0.lt m2.1))⟩))))⟩)
        · obtain ⟨n0, n1, rfl, rfl, rfl, rfl, rfl, rfl, rfl, rfl, rfl, rfl, HH⟩ := hI
          right
          refine ⟨5, [0, 1], rfl, by kernel_rfl, by simp, fun i hi => ?_⟩
          simp only [List.mem_cons, List.not_mem_nil, or_false] at hi
          rcases hi with rfl | rfl
          · refine ⟨_, rfl, fun K' hK => ?_⟩
            go_simp
            obtain ⟨K, ge_n0, at_n0, ge_n1, at_n1, ne_n0_n1⟩ := HH.out
            refine hK.out _ _ (fun _ _ => (HS1.out _ (K.alloc K.size _))) (⟨_, _, _, _, _, _, _, _, rfl, .inr (.inl (.inl (.inl (⟨w1.heap.size, n0, n1, rfl, rfl, rfl, rfl, rfl, rfl, rfl, rfl, rfl, rfl, K.alloc K.size _, K.size, slot_new w1 _ _, ge_n0, at_n0.below (Below.alloc_self' w1 _) (Nat.le_refl _), ge_n1, at_n1.below (Below.alloc_self' w1 _) (Nat.le_refl _), (Nat.ne_of_gt at_n0.lt), (Nat.ne_of_gt at_n1.lt), ne_n0_n1⟩))))⟩)
          · refine ⟨_, rfl, fun K' hK => ?_⟩
            go_simp
            obtain ⟨K, ge_n0, at_n0, ge_n1, at_n1, ne_n0_n1⟩ := HH.out
            refine hK.out _ _ (fun _ _ => (HS1.out _ (K.alloc K.size _))) (⟨_, _, _, _, _, _, _, _, rfl, .inr (.inl (.inl (.inr (⟨w1.heap.size, n0, n1, rfl, rfl, rfl, rfl, rfl, rfl, rfl, rfl, rfl, rfl, K.alloc K.size _, K.size, slot_new w1 _ _, ge_n0, at_n0.below (Below.alloc_self' w1 _) (Nat.le_refl _), ge_n1, at_n1.below (Below.alloc_self' w1 _) (Nat.le_refl _), (Nat.ne_of_gt at_n0.lt), (Nat.ne_of_gt at_n1.lt), ne_n0_n1⟩))))⟩)
        · obtain ⟨z1, z2, n0, rfl, rfl, rfl, rfl, rfl, rfl, rfl, rfl, rfl, rfl, HH⟩ := hI
          right
          refine ⟨4, [6], rfl, by kernel_rfl, by simp, fun i hi => ?_⟩
          simp only [List.mem_cons, List.not_mem_nil, or_false] at hi
          subst hi
          refine ⟨_, rfl, fun K' hK => ?_⟩
          go_simp
          obtain ⟨K, ge_z1, at_z1, ge_z2, at_z2, ge_n0, at_n0, ne_z1_z2, ne_z1_n0, ne_z2_n0⟩ := HH.out
          refine (B_any (d : Int) w1 (by omega) (by omega)).mono ?_
          rintro e w2 ⟨n1, rfl, m2⟩
          refine hK.out _ _ (fun _ _ => (HS1.out _ (K.trans (m2.2.2.mono K.size)))) (⟨_, _, _, _, _, _, _, _, rfl, .inr (.inl (.inr (.inl (⟨z1, z2, n0, n1, rfl, rfl, rfl, rfl, rfl, rfl, rfl, rfl, rfl, rfl, (K.trans (m2.2.2.mono K.size)), ge_z1, at_z1.below m2.2.2 (Nat.le_refl _), ge_z2, at_z2.below m2.2.2 (Nat.le_refl _), ge_n0, at_n0.below m2.2.2 (Nat.le_refl _), (Nat.le_trans K.size m2.1), m2.2.1, ne_z1_z2, ne_z1_n0, (Nat.ne_of_lt (Nat.lt_of_lt_of_le at_z1.lt m2.1)), ne_z2_n0, (Nat.ne_of_lt (Nat.lt_of_lt_of_le at_z2.lt m2.1)), (Nat.ne_of_lt (Nat.lt_of_lt_of_le at_n0.lt m2.1))⟩))))⟩)
        · obtain ⟨z1, n0, n1, rfl, rfl, rfl, rfl, rfl, rfl, rfl, rfl, rfl, rfl, HH⟩ := hI
          right
          refine ⟨4, [1], rfl, by kernel_rfl, by simp, fun i hi => ?_⟩
          simp only [List.mem_cons, List.not_mem_nil, or_false] at hi
          subst hi
          refine ⟨_, rfl, fun K' hK => ?_⟩
          go_simp
          obtain ⟨K, ge_z1, at_z1, ge_n0, at_n0, ge_n1, at_n1, ne_z1_n0, ne_z1_n1, ne_n0_n1⟩ := HH.out
          refine hK.out _ _ (fun _ _ => (HS1.out _ (K.alloc K.size _))) (⟨_, _, _, _, _, _, _, _, rfl, .inr (.inl (.inr (.inl (⟨z1, w1.heap.size, n0, n1, rfl, rfl, rfl, rfl, rfl, rfl, rfl, rfl, rfl, rfl, K.alloc K.size _, ge_z1, at_z1.below (Below.alloc_self' w1 _) (Nat.le_refl _), K.size, slot_new w1 _ _, ge_n0, at_n0.below (Below.alloc_self' w1 _) (Nat.le_refl _), ge_n1, at_n1.below (Below.alloc_self' w1 _) (Nat.le_refl _), (Nat.ne_of_lt at_z1.lt), ne_z1_n0, ne_z1_n1, (Nat.ne_of_gt at_n0.lt), (Nat.ne_of_gt at_n1.lt), ne_n0_n1⟩))))⟩)
        · obtain ⟨z2, n0, n1, rfl, rfl, rfl, rfl, rfl, rfl, rfl, rfl, rfl, rfl, HH⟩ := hI
          right
          refine ⟨4, [0, 7], rfl, by kernel_rfl, by simp, fun i hi => ?_⟩
          simp only [List.mem_cons, List.not_mem_nil, or_false] at hi
          rcases hi with rfl | rfl
          · refine ⟨_, rfl, fun K' hK => ?_⟩
            go_simp
            obtain ⟨K, ge_z2, at_z2, ge_n0, at_n0, ge_n1, at_n1, ne_z2_n0, ne_z2_n1, ne_n0_n1⟩ := HH.out
            refine hK.out _ _ (fun _ _ => (HS1.out _ (K.alloc K.size _))) (⟨_, _, _, _, _, _, _, _, rfl, .inr (.inl (.inr (.inl (⟨w1.heap.size, z2, n0, n1, rfl, rfl, rfl, rfl, rfl, rfl, rfl, rfl, rfl, rfl, K.alloc K.size _, K.size, slot_new w1 _ _, ge_z2, at_z2.below (Below.alloc_self' w1 _) (Nat.le_refl _), ge_n0, at_n0.below (Below.alloc_self' w1 _) (Nat.le_refl _), ge_n1, at_n1.below (Below.alloc_self' w1 _) (Nat.le_refl _), (Nat.ne_of_gt at_z2.lt), (Nat.ne_of_gt at_n0.lt), (Nat.ne_of_gt at_n1.lt), ne_z2_n0, ne_z2_n1, ne_n0_n1⟩))))⟩)
          · refine ⟨_, rfl, fun K' hK => ?_⟩
            go_simp
            obtain ⟨K, ge_z2, at_z2, ge_n0, at_n0, ge_n1, at_n1, ne_z2_n0, ne_z2_n1, ne_n0_n1⟩ := HH.out
            refine (Mul_any z2 n0 n1 up (d : Int) 2 2 w1 at_z2 at_n0 at_n1 HP.out.1 HP.out.2.1 (by omega) (by omega)).mono ?_
            rintro e w2 ⟨rfl, h2, u2⟩
            refine hK.out _ _ (fun _ _ => (HS1.out _ (K.trans (u2.below K.size ge_z2)))) (⟨_, _, _, _, _, _, _, _, rfl, .inr (.inl (.inr (.inr (⟨z2, n0, n1, rfl, rfl, rfl, rfl, rfl, rfl, rfl, rfl, rfl, rfl, (K.trans (u2.below K.size ge_z2)), ge_z2, h2, ge_n0, at_n0.upd u2 at_z2 (Ne.symm ne_z2_n0), ge_n1, at_n1.upd u2 at_z2 (Ne.symm ne_z2_n1), ne_z2_n0, ne_z2_n1, ne_n0_n1⟩))))⟩)
        · obtain ⟨z1, z2, n0, n1, rfl, rfl, rfl, rfl, rfl, rfl, rfl, rfl, rfl, rfl, HH⟩ := hI
          right
          refine ⟨3, [7], rfl, by kernel_rfl, by simp, fun i hi => ?_⟩
          simp only [List.mem_cons, List.not_mem_nil, or_false] at hi
          subst hi
          refine ⟨_, rfl, fun K' hK => ?_⟩
          go_simp
          obtain ⟨K, ge_z1, at_z1, ge_z2, at_z2, ge_n0, at_n0, ge_n1, at_n1, ne_z1_z2, ne_z1_n0, ne_z1_n1, ne_z2_n0, ne_z2_n1, ne_n0_n1⟩ := HH.out
          refine (Mul_any z2 n0 n1 up (d : Int) 2 2 w1 at_z2 at_n0 at_n1 HP.out.1 HP.out.2.1 (by omega) (by omega)).mono ?_
          rintro e w2 ⟨rfl, h2, u2⟩
          refine hK.out _ _ (fun _ _ => (HS1.out _ (K.trans (u2.below K.size ge_z2)))) (⟨_, _, _, _, _, _, _, _, rfl, .inr (.inr (.inl (.inl (⟨z1, z2, n0, n1, rfl, rfl, rfl, rfl, rfl, rfl, rfl, rfl, rfl, rfl, (K.trans (u2.below K.size ge_z2)), ge_z1, at_z1.upd u2 ne_z1_z2, ge_z2, h2, ge_n0, at_n0.upd u2 at_z2 (Ne.symm ne_z2_n0), ge_n1, at_n1.upd u2 at_z2 (Ne.symm ne_z2_n1), ne_z1_z2, ne_z1_n0, ne_z1_n1, ne_z2_n0, ne_z2_n1, ne_n0_n1⟩))))⟩)
        · obtain ⟨z2, n0, n1, rfl, rfl, rfl, rfl, rfl, rfl, rfl, rfl, rfl, rfl, HH⟩ := hI
          right
          refine ⟨3, [0, 10], rfl, by kernel_rfl, by simp, fun i hi => ?_⟩
          simp only [List.mem_cons, List.not_mem_nil, or_false] at hi
          rcases hi with rfl | rfl
          · refine ⟨_, rfl, fun K' hK => ?_⟩
            go_simp
            obtain ⟨K, ge_z2, at_z2, ge_n0, at_n0, ge_n1, at_n1, ne_z2_n0, ne_z2_n1, ne_n0_n1⟩ := HH.out
            refine hK.out _ _ (fun _ _ => (HS1.out _ (K.alloc K.size _))) (⟨_, _, _, _, _, _, _, _, rfl, .inr (.inr (.inl (.inl (⟨w1.heap.size, z2, n0, n1, rfl, rfl, rfl, rfl, rfl, rfl, rfl, rfl, rfl, rfl, K.alloc K.size _, K.size, slot_new w1 _ _, ge_z2, at_z2.below (Below.alloc_self' w1 _) (Nat.le_refl _), ge_n0, at_n0.below (Below.alloc_self' w1 _) (Nat.le_refl _), ge_n1, at_n1.below (Below.alloc_self' w1 _) (Nat.le_refl _), (Nat.ne_of_gt at_z2.lt), (Nat.ne_of_gt at_n0.lt), (Nat.ne_of_gt at_n1.lt), ne_z2_n0, ne_z2_n1, ne_n0_n1⟩))))⟩)
          · refine ⟨_, rfl, fun K' hK => ?_⟩
            go_simp
            obtain ⟨K, ge_z2, at_z2, ge_n0, at_n0, ge_n1, at_n1, ne_z2_n0, ne_z2_n1, ne_n0_n1⟩ := HH.out
            refine (B_any dn w1 (by omega) (by omega)).mono ?_
            rintro e w2 ⟨n2, rfl, m2⟩
            refine hK.out _ _ (fun _ _ => (HS1.out _ (K.trans (m2.2.2.mono K.size)))) (⟨_, _, _, _, _, _, _, _, rfl, .inr (.inr (.inl (.inr (⟨z2, n0, n1, n2, rfl, rfl, rfl, rfl, rfl, rfl, rfl, rfl, rfl, rfl, (K.trans (m2.2.2.mono K.size)), ge_z2, at_z2.below m2.2.2 (Nat.le_refl _), ge_n0, at_n0.below m2.2.2 (Nat.le_refl _), ge_n1, at_n1.below m2.2.2 (Nat.le_refl _), (Nat.le_trans K.size m2.1), m2.2.1, ne_z2_n0, ne_z2_n1, (Nat.ne_of_lt (Nat.lt_of_lt_of_le at_z2.lt m2.1)), ne_n0_n1, (Nat.ne_of_lt (Nat.lt_of_lt_of_le at_n0.lt m2.1)), (Nat.ne_of_lt (Nat.lt_of_lt_of_le at_n1.lt m2.1))⟩))))⟩)
        · obtain ⟨z1, z2, n0, n1, rfl, rfl, rfl, rfl, rfl, rfl, rfl, rfl, rfl, rfl, HH⟩ := hI
          right
          refine ⟨2, [10], rfl, by kernel_rfl, by simp, fun i hi => ?_⟩
          simp only [List.mem_cons, List.not_mem_nil, or_false] at hi
          subst hi
          refine ⟨_, rfl, fun K' hK => ?_⟩
          go_simp
          obtain ⟨K, ge_z1, at_z1, ge_z2, at_z2, ge_n0, at_n0, ge_n1, at_n1, ne_z1_z2, ne_z1_n0, ne_z1_n1, ne_z2_n0, ne_z2_n1, ne_n0_n1⟩ := HH.out
          refine (B_any dn w1 (by omega) (by omega)).mono ?_
          rintro e w2 ⟨n2, rfl, m2⟩
          refine hK.out _ _ (fun _ _ => (HS1.out _ (K.trans (m2.2.2.mono K.size)))) (⟨_, _, _, _, _, _, _, _, rfl, .inr (.inr (.inr (.inl (⟨z1, z2, n0, n1, n2, rfl, rfl, rfl, rfl, rfl, rfl, rfl, rfl, rfl, rfl, (K.trans (m2.2.2.mono K.size)), ge_z1, at_z1.below m2.2.2 (Nat.le_refl _), ge_z2, at_z2.below m2.2.2 (Nat.le_refl _), ge_n0, at_n0.below m2.2.2 (Nat.le_refl _), ge_n1, at_n1.below m2.2.2 (Nat.le_refl _), (Nat.le_trans K.size m2.1), m2.2.1, ne_z1_z2, ne_z1_n0, ne_z1_n1, (Nat.ne_of_lt (Nat.lt_of_lt_of_le at_z1.lt m2.1)), ne_z2_n0, ne_z2_n1, (Nat.ne_of_lt (Nat.lt_of_lt_of_le at_z2.lt m2.1)), ne_n0_n1, (Nat.ne_of_lt (Nat.lt_of_lt_of_le at_n0.lt m2.1)), (Nat.ne_of_lt (Nat.lt_of_lt_of_le at_n1.lt m2.1))⟩))))⟩)
        · obtain ⟨z2, n0, n1, n2, rfl, rfl, rfl, rfl, rfl, rfl, rfl, rfl, rfl, rfl, HH⟩ := hI
          right
          refine ⟨2, [0], rfl, by kernel_rfl, by simp, fun i hi => ?_⟩
          simp only [List.mem_cons, List.not_mem_nil, or_false] at hi
          subst hi
          refine ⟨_, rfl, fun K' hK => ?_⟩
          go_simp
          obtain ⟨K, ge_z2, at_z2, ge_n0, at_n0, ge_n1, at_n1, ge_n2, at_n2, ne_z2_n0, ne_z2_n1, ne_z2_n2, ne_n0_n1, ne_n0_n2, ne_n1_n2⟩ := HH.out
          refine hK.out _ _ (fun _ _ => (HS1.out _ (K.alloc K.size _))) (⟨_, _, _, _, _, _, _, _, rfl, .inr (.inr (.inr (.inl (⟨w1.heap.size, z2, n0, n1, n2, rfl, rfl, rfl, rfl, rfl, rfl, rfl, rfl, rfl, rfl, K.alloc K.size _, K.size, slot_new w1 _ _, ge_z2, at_z2.below (Below.alloc_self' w1 _) (Nat.le_refl _), ge_n0, at_n0.below (Below.alloc_self' w1 _) (Nat.le_refl _), ge_n1, at_n1.below (Below.alloc_self' w1 _) (Nat.le_refl _), ge_n2, at_n2.below (Below.alloc_self' w1 _) (Nat.le_refl _), (Nat.ne_of_gt at_z2.lt), (Nat.ne_of_gt at_n0.lt), (Nat.ne_of_gt at_n1.lt), (Nat.ne_of_gt at_n2.lt), ne_z2_n0, ne_z2_n1, ne_z2_n2, ne_n0_n1, ne_n0_n2, ne_n1_n2⟩))))⟩)
        · obtain ⟨z1, z2, n0, n1, n2, rfl, rfl, rfl, rfl, rfl, rfl, rfl, rfl, rfl, rfl, HH⟩ := hI
          right
          refine ⟨1, [11], rfl, by kernel_rfl, by simp, fun i hi => ?_⟩
          simp only [List.mem_cons, List.not_mem_nil, or_false] at hi
          subst hi
          refine ⟨_, rfl, fun K' hK => ?_⟩
          go_simp
          obtain ⟨K, ge_z1, at_z1, ge_z2, at_z2, ge_n0, at_n0, ge_n1, at_n1, ge_n2, at_n2, ne_z1_z2, ne_z1_n0, ne_z1_n1, ne_z1_n2, ne_z2_n0, ne_z2_n1, ne_z2_n2, ne_n0_n1, ne_n0_n2, ne_n1_n2⟩ := HH.out
          refine (Div_any z1 z2 n2 (up * (d : Int)) dn 4 2 w1 at_z1 at_z2 at_n2 (by omega) HP.out.2.2.1 HP.out.2.2.2.1 (by omega) (by omega)).mono ?_
          rintro e w2 ⟨rfl, h2, u2⟩
          refine hK.out _ _ (fun _ _ => (HS1.out _ (K.trans (u2.below K.size ge_z1)))) (⟨_, _, _, _, _, _, _, _, rfl, .inr (.inr (.inr (.inr (.inl (⟨z1, z2, n0, n1, n2, rfl, rfl, rfl, rfl, rfl, rfl, rfl, rfl, rfl, rfl, (K.trans (u2.below K.size ge_z1)), ge_z1, h2, ge_z2, at_z2.upd u2 at_z1 (Ne.symm ne_z1_z2), ge_n0, at_n0.upd u2 at_z1 (Ne.symm ne_z1_n0), ge_n1, at_n1.upd u2 at_z1 (Ne.symm ne_z1_n1), ge_n2, at_n2.upd u2 at_z1 (Ne.symm ne_z1_n2), ne_z1_z2, ne_z1_n0, ne_z1_n1, ne_z1_n2, ne_z2_n0, ne_z2_n1, ne_z2_n2, ne_n0_n1, ne_n0_n2, ne_n1_n2⟩)))))⟩)
        · obtain ⟨z1, z2, n0, n1, n2, rfl, rfl, rfl, rfl, rfl, rfl, rfl, rfl, rfl, rfl, HH⟩ := hI
          right
          refine ⟨0, [12], rfl, by kernel_rfl, by simp, fun i hi => ?_⟩
          simp only [List.mem_cons, List.not_mem_nil, or_false] at hi
          subst hi
          refine ⟨_, rfl, fun K' hK => ?_⟩
          go_simp
          obtain ⟨K, ge_z1, at_z1, ge_z2, at_z2, ge_n0, at_n0, ge_n1, at_n1, ge_n2, at_n2, ne_z1_z2, ne_z1_n0, ne_z1_n1, ne_z1_n2, ne_z2_n0, ne_z2_n1, ne_z2_n2, ne_n0_n1, ne_n0_n2, ne_n1_n2⟩ := HH.out
          refine hK.out _ _ (fun _ h => absurd rfl h) (⟨_, _, _, _, _, _, _, _, rfl, .inr (.inr (.inr (.inr (.inr (⟨z1, z2, n0, n1, n2, rfl, rfl, rfl, rfl, rfl, rfl, rfl, rfl, rfl, rfl, K, ge_z1, at_z1, ge_z2, at_z2, ge_n0, at_n0, ge_n1, at_n1, ge_n2, at_n2, ne_z1_z2, ne_z1_n0, ne_z1_n1, ne_z1_n2, ne_z2_n0, ne_z2_n1, ne_z2_n2, ne_n0_n1, ne_n0_n2, ne_n1_n2⟩)))))⟩)
        · obtain ⟨z1, z2, n0, n1, n2, rfl, rfl, rfl, rfl, rfl, rfl, rfl, rfl, rfl, rfl, HH⟩ := hI
          obtain ⟨K, ge_z1, at_z1, ge_z2, at_z2, ge_n0, at_n0, ge_n1, at_n1, ge_n2, at_n2, ne_z1_z2, ne_z1_n0, ne_z1_n1, ne_z1_n2, ne_z2_n0, ne_z2_n1, ne_z2_n2, ne_n0_n1, ne_n0_n2, ne_n1_n2⟩ := HH.out
          left
          refine ⟨by kernel_rfl, ?_⟩
          have HK1 : Hid (Kp w hi up dn bv (d - 1) w1 ∧ BigAt w1 z1 (up * (d : Int) / dn) ∧ hi ≤ z1) := by
            have hh := HM.out.hi1
            exact ⟨HM.out.below K, at_z1, by omega⟩
          clear HH K HS1 HM ge_z1 at_z1 ge_z2 at_z2 ge_n0 at_n0 ge_n1 at_n1 ge_n2 at_n2 ne_z1_z2 ne_z1_n0 ne_z1_n1 ne_z1_n2 ne_z2_n0 ne_z2_n1 ne_z2_n2 ne_n0_n1 ne_n0_n2 ne_n1_n2
          obtain ⟨c, hc⟩ : ∃ c, c = up * (d : Int) / dn := ⟨_, rfl⟩
          have HC : Hid (c = up * (d : Int) / dn ∧ c.natAbs < pw 2 ∧ (c + 1).natAbs < pw 2) := by
            have e1 := Int.natAbs_ediv_le_natAbs (up * (d : Int)) dn
            rw [← hc] at e1
            have e2 := HP.out.2.2.2.2
            refine ⟨hc, by rw [pw_two]; omega, by rw [pw_two]; omega⟩
          rw [← hc] at HK1
          clear hc
          go_wp2_with fail
          refine (B_any 1 _ (by omega) (by omega)).mono ?_
          rintro e w2 ⟨n3, rfl, m2⟩
          have HK2 : Hid (Kp w hi up dn bv (d - 1) w2 ∧ BigAt w2 z1 c ∧ hi ≤ z1 ∧ RSlot w2 w1.heap.size ∧ hi ≤ w1.heap.size ∧ BigAt w2 n3 1 ∧ z1 < w1.heap.size) := by
            obtain ⟨kp, bz, hz⟩ := HK1.out
            have k12 : Below w1.heap.size w1 w2 := (Below.alloc_self' w1 _).trans (m2.2.2.mono (by simp))
            exact ⟨kp.below k12, bz.below k12 (Nat.le_refl _), hz, (RSlot.new (w1) _ _ _ _).below m2.2.2, kp.hi1, m2.2.1, bz.lt⟩
          clear m2 HK1
          go_wp2_with fail
          refine (Add_any z1 z1 n3 c 1 2 2 w2 HK2.out.2.1.slot HK2.out.2.1 HK2.out.2.2.2.2.2.1 HC.out.2.1 (by rw [pw_two]; decide) (by omega) (by omega)).mono ?_
          rintro e w3 ⟨rfl, h3, u3⟩
          have HK3 : Hid (Kp w hi up dn bv (d - 1) w3 ∧ BigAt w3 z1 (c + 1) ∧ hi ≤ z1 ∧ RSlot w3 w1.heap.size ∧ hi ≤ w1.heap.size ∧ z1 < w1.heap.size) := by
            obtain ⟨kp, bz, hz, rs, hr, _, hzr⟩ := HK2.out
            exact ⟨kp.upd u3 bz.slot hz, h3, hz, rs.updS u3 (by omega), hr, hzr⟩
          clear h3 u3 HK2
          go_wp2_with fail
          refine (B_any (d : Int) _ (by omega) (by omega)).mono ?_
          rintro e w4 ⟨n4, rfl, m4⟩
          have HK4 : Hid (Kp w hi up dn bv (d - 1) w4 ∧ BigAt w4 z1 (c + 1) ∧ RSlot w4 w1.heap.size ∧ hi ≤ w1.heap.size ∧ BigAt w4 n4 (d : Int)) := by
            obtain ⟨kp, bz, hz, rs, hr, hzr⟩ := HK3.out
            exact ⟨kp.below m4.2.2, bz.below m4.2.2 (Nat.le_refl _), rs.below m4.2.2, hr, m4.2.1⟩
          clear m4 HK3
          go_wp2_with fail
          refine (SetFrac_any w1.heap.size z1 0 n4 0 (c + 1) (d : Int) 2 w4 HK4.out.2.2.1 HK4.out.2.1.at HK4.out.2.2.2.2.at (by omega) HC.out.2.2 HP.out.2.1 (by omega)).mono ?_
          rintro e w5 ⟨rfl, P, Q, hrt, hval, hPle, hQle, u5⟩
          have HK5 : Hid (Kp w hi up dn bv (d - 1) w5 ∧ Rt w5 w1.heap.size P Q ∧ P * (d : Int) = (up * (d : Int) / dn + 1) * Q ∧ P.natAbs < pw 2 ∧ Q.natAbs < pw 2 ∧ Q.natAbs ≤ d) := by
            obtain ⟨kp, bz, rs, hr, _⟩ := HK4.out
            exact ⟨kp.updR u5 rs hr, hrt, by rw [← HC.out.1]; exact hval, Nat.lt_of_le_of_lt hPle HC.out.2.2, Nat.lt_of_le_of_lt hQle HP.out.2.1, by simpa using hQle⟩
          clear hrt hval hPle hQle u5 HK4 HC
          obtain ⟨r, hr⟩ : ∃ r, r = w1.heap.size := ⟨_, rfl⟩
          rw [← hr] at HK5
          rw [← hr]
          clear hr
          rcases HK5.out.1.b with ⟨hd0, rfl⟩ | ⟨hd0, bb, P0, Q0, rfl, hbb, rt0, best0, p0, q0⟩
          · have HK6 : Hid (∃ hi, Kp w hi up dn (.pointer (some ⟨r, 0, none⟩)) d w5) := by
              obtain ⟨kp, rt, hval, hP, hQ, hQd⟩ := HK5.out
              obtain rfl : d = 1 := by omega
              exact ⟨_, kp.next (.inr ⟨Nat.le_refl _, r, P, Q, rfl, rt.lt, rt, best_first (by omega) rt.pos hQd hval, hP, hQ⟩)⟩
            clear HK5 hd0
            go_wp2
            go_roundg (top + 1 - (d + 1))
            case rel => exact ⟨d + 1, _, rfl, by go_num, by omega, by omega, by omega, HK6.out⟩
            case measure => have := HG.out; omega
          · obtain ⟨C, hC⟩ : ∃ C, C = cmpZ (P * Q0) (P0 * Q) := ⟨_, rfl⟩
            have HX : Hid (Calls Tryz.prog 42 #[.pointer (some ⟨r, 0, none⟩), .pointer (some ⟨bb, 0, none⟩)] w5 fun e w' => e = .returned (.int .i64 C) ∧ Below w5.heap.size w5 w') := by
              rw [hC]; exact RCmp_any r bb P Q P0 Q0 2 w5 HK5.out.2.1 rt0 ⟨HK5.out.2.2.2.1, HK5.out.2.2.2.2.1, p0, q0, by omega⟩
            by_cases hC0 : C < 0
            · have tC : decide (C < 0) = true := decide_eq_true hC0
              have HK6 : Hid (∃ hi, Kp w hi up dn (.pointer (some ⟨r, 0, none⟩)) d w5) := by
                obtain ⟨kp, rt, hval, hP, hQ, hQd⟩ := HK5.out
                refine ⟨_, kp.next (.inr ⟨hd1, r, P, Q, rfl, rt.lt, rt, best_new' (by omega) hd1 best0 rt.pos (by have := rt.pos; omega) hval (cmpZ_neg.1 (by rw [← hC]; exact hC0)), hP, hQ⟩)⟩
              clear HK5 hd0 hC hbb rt0 best0 p0 q0 hC0
              go_wp2_with fail
              refine HX.out.mono ?_
              rintro e w6 ⟨rfl, k6⟩
              have HK7 : Hid (∃ hi, Kp w hi up dn (.pointer (some ⟨r, 0, none⟩)) d w6) := by
                obtain ⟨hi, kp⟩ := HK6.out
                exact ⟨hi, kp.below k6⟩
              clear k6 HK6 HX
              go_wp2
              go_roundg (top + 1 - (d + 1))
              case rel => exact ⟨d + 1, _, rfl, by go_num, by omega, by omega, by omega, HK7.out⟩
              case measure => have := HG.out; omega
            · have tC : decide (C < 0) = false := decide_eq_false hC0
              have HK6 : Hid (∃ hi, Kp w hi up dn (.pointer (some ⟨bb, 0, none⟩)) d w5) := by
                obtain ⟨kp, rt, hval, hP, hQ, hQd⟩ := HK5.out
                refine ⟨_, kp.next (.inr ⟨hd1, bb, P0, Q0, rfl, rt0.lt, rt0, best_keep' hd1 best0 rt.pos hval (by have h := mt cmpZ_neg.2 (by rw [← hC]; exact hC0); omega), p0, q0⟩)⟩
              clear HK5 hd0 hC hbb rt0 best0 p0 q0 hC0
              go_wp2_with fail
              refine HX.out.mono ?_
              rintro e w6 ⟨rfl, k6⟩
              have HK7 : Hid (∃ hi, Kp w hi up dn (.pointer (some ⟨bb, 0, none⟩)) d w6) := by
                obtain ⟨hi, kp⟩ := HK6.out
                exact ⟨hi, kp.below k6⟩
              clear k6 HK6 HX
              go_wp2
              go_roundg (top + 1 - (d + 1))
              case rel => exact ⟨d + 1, _, rfl, by go_num, by omega, by omega, by omega, HK7.out⟩
              case measure => have := HG.out; omega
    · have ti : decide ((d : Int) ≤ (top : Int)) = false := decide_eq_false (by omega)
      obtain ⟨kp⟩ : Nonempty (Kp w hi up dn bv (d - 1) wr) := ⟨HM.out⟩
      rcases kp.b with ⟨hd0, rfl⟩ | ⟨hd0, bb, P0, Q0, rfl, hbb, rt0, best0, p0, q0⟩
      · exact absurd HE.out.2.2.1 (by have := HE.out.2.1; omega)
      · have e : P0 = p ∧ Q0 = q := by
          obtain ⟨e1, e2, e3, e4, _⟩ := HE.out
          have hd : d - 1 = top := by omega
          rw [hd] at best0
          exact low_uniq rt0.pos (by omega) (FR.best_end (by omega) best0 e1 e2 (by omega) e4) rt0.low (gcd_of_det e1)
        obtain ⟨rfl, rfl⟩ := e
        obtain ⟨b4, hb4⟩ : ∃ b, b = w.heap.size + 1 := ⟨_, rfl⟩
        have HZ : Hid (Rt wr bb P0 Q0 ∧ Sv b4 0 0 wr ∧ Below w.heap.size w wr ∧ w.heap.size ≤ b4 ∧ P0.natAbs < 9223372036854775808 ∧ Q0.natAbs < 9223372036854775808 ∧ Q0.natAbs < pw 2) := by
          have h5 := HE.out.2.2.2.2
          have h6 := HE.out.2.2.1
          have h7 := HE.out.2.1
          exact ⟨rt0, by rw [hb4]; exact Sv.ofCl kp.D, kp.k, by omega, by omega, by omega, q0⟩
        rw [← hb4]
        clear hb4 kp hd0 hbb rt0 best0 p0 q0 HM HS1 HE c0 HG
        go_wp2_with fail
        refine (Num_any bb _ HZ.out.1.lt).mono ?_
        rintro e w2 ⟨rfl, hw2⟩
        rw [hw2]
        clear hw2 w2
        go_wp2_with fail
        refine (Int64_at 0 bb P0 _ HZ.out.1.at'.num HZ.out.2.2.2.2.1).mono ?_
        rintro e w2 ⟨rfl, k, hw⟩
        have HZ2 : Hid (Rt w2 bb P0 Q0 ∧ Sv b4 0 0 w2 ∧ Below w.heap.size w w2) := by
          have kk : Below wr.heap.size wr w2 := by rw [hw]; exact below_drewN' (Below.refl _ _)
          exact ⟨HZ.out.1.below kk, HZ.out.2.1.below kk, HZ.out.2.2.1.trans (kk.mono HZ.out.2.2.1.size)⟩
        clear hw
        go_wp2_with fail
        refine (Denom_pos bb P0 Q0 2 _ HZ2.out.1.at' HZ2.out.1.pos HZ.out.2.2.2.2.2.2 (by omega)).mono ?_
        rintro e w3 ⟨n5, rfl, m3⟩
        have HZ3 : Hid (Sv b4 0 0 w3 ∧ Below w.heap.size w w3) := ⟨HZ2.out.2.1.below m3.2.2, HZ2.out.2.2.trans (m3.2.2.mono HZ2.out.2.2.size)⟩
        go_wp2_with fail
        refine (Int64_any n5 Q0 _ m3.2.1 HZ.out.2.2.2.2.2.1).mono ?_
        rintro e w4 ⟨rfl, k, hw⟩
        have HZ4 : Hid (Sv b4 0 0 w4 ∧ Below w.heap.size w w4) := by
          have kk : Below w3.heap.size w3 w4 := by rw [hw]; exact below_drewN' (Below.refl _ _)
          exact ⟨HZ3.out.1.below kk, HZ3.out.2.trans (kk.mono HZ3.out.2.size)⟩
        clear hw m3 HZ2 HZ3
        have r0 := HZ4.out.1.c0
        have r1 := HZ4.out.1.c1
        have r2 := HZ4.out.1.f0
        have r3 := HZ4.out.1.f1
        have r8 := HZ4.out.1.lt
        have z4 := HZ.out.2.2.2.1
        have HF : Hid (Sv b4 P0 Q0 ((w4.setCell ⟨b4, 0, none⟩ (.int .i64 P0)).setCell ⟨b4, 1, none⟩ (.int .i64 Q0)) ∧ Below w.heap.size w ((w4.setCell ⟨b4, 0, none⟩ (.int .i64 P0)).setCell ⟨b4, 1, none⟩ (.int .i64 Q0))) :=
          ⟨HZ4.out.1.set _ _, (HZ4.out.2.setCell z4 _).setCell z4 _⟩
        clear HZ4 HZ
        go_wp2
        have e1 := HF.out.1.c0
        have e2 := HF.out.1.c1
        exact bodyPost_ret (v := .agg #[.int .i64 P0, .int .i64 Q0]) (by simp [results, Tryz.results12, go_sem, e1, e2]) rfl ⟨rfl, HF.out.2⟩
end Go.Proofs.YtcnfhndejkngkaaGreatDoor
