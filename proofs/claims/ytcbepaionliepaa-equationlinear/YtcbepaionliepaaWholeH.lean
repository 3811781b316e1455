/- The contract of Combined; the law WholeDivides walked. -/
import Derived.Test.YtcbepaionliepaaWholeG
import Derived.Test.YtcbepaionliepaaBigG
import Derived.Laws.StructEq
set_option linter.unusedSimpArgs false
set_option linter.unusedVariables false
set_option maxRecDepth 100000
namespace Go.Proofs.Ytcbepaionliepaa
open Go.RowKit

theorem lt_pw2 {x : Int} (h1 : -9223372036854775808 ≤ x) (h2 : x ≤ 9223372036854775807) : x.natAbs < pw 2 := by rw [pw_two]; omega
theorem mul_lt_pw {x y : Int} {m n : Nat} (hx : x.natAbs < pw m) (hy : y.natAbs < pw n) : (x * y).natAbs < pw (m + n) := by
  rw [Int.natAbs_mul, pw_add]; exact Nat.mul_lt_mul'' hx hy
theorem add_lt_pw {x y : Int} {m : Nat} (hx : x.natAbs < pw m) (hy : y.natAbs < pw m) : (x + y).natAbs < pw (m + 1) := by
  have : pw (m + 1) = 4294967296 * pw m := rfl
  omega

theorem Below.alloc_self (w : World) (o : Obj) : Below w.heap.size w (w.alloc o) := Below.alloc (Below.refl _ _) (Nat.le_refl _) _

theorem newB {W w' : World} {C : Array Value} {t : TypeId} (k : Below (W.alloc (.cells C t)).heap.size (W.alloc (.cells C t)) w') {i : Nat} {v : Value} (h : C[i]? = some v) : w'.cell? ⟨W.heap.size, i, none⟩ = some v :=
  cell_later k (by rw [World.cell?_alloc_at _ _ _ _ rfl]; exact h)
theorem keepB {W w' : World} {o : Obj} {a : Addr} {v : Value} (k : Below (W.alloc o).heap.size (W.alloc o) w') (h : W.cell? a = some v) : w'.cell? a = some v :=
  cell_later k (by rw [World.cell?_alloc_lt _ _ _ (World.block_lt_of_cell? _ _ h)]; exact h)

set_option maxHeartbeats 1000000 in
theorem Combined_any (u a v b : Int) (w : World) (hu : -9223372036854775808 ≤ u ∧ u ≤ 9223372036854775807) (ha : -9223372036854775808 ≤ a ∧ a ≤ 9223372036854775807) (hv : -9223372036854775808 ≤ v ∧ v ≤ 9223372036854775807) (hb : -9223372036854775808 ≤ b ∧ b ≤ 9223372036854775807) :
    Calls Try.prog 11 #[.int .i64 u, .int .i64 a, .int .i64 v, .int .i64 b] w fun e w' => ∃ z, e = .returned (.pointer (some ⟨z, 0, none⟩)) ∧ Made w w' z (u * a + v * b) := by
  go_enter Try.func11, Try.ntmps11
  go_wp2_with fail
  have s0 := slot_new w (.bool false) (.slice none 0 0)
  have k0 := Below.alloc_self w (.cells #[.bool false, .slice none 0 0] 47)
  refine (B_any u _ hu.1 hu.2).mono ?_
  rintro e w1 ⟨b1, rfl, g1, i1, k1⟩
  have s1 := s0.below k1 (Nat.le_refl _)
  go_wp2_with fail
  refine (B_any a _ ha.1 ha.2).mono ?_
  rintro e w2 ⟨b2, rfl, g2, i2, k2⟩
  have s2 := s1.below k2 (Nat.le_refl _)
  have i1' := i1.below k2 (Nat.le_refl _)
  go_wp2_with fail
  refine (Mul_any w.heap.size b1 b2 u a 2 2 w2 s2 i1' i2 (lt_pw2 hu.1 hu.2) (lt_pw2 ha.1 ha.2) (by omega) (by omega)).mono ?_
  rintro e w3 ⟨rfl, i3, k3⟩
  go_wp2_with fail
  have s4 := slot_new w3 (.bool false) (.slice none 0 0)
  have k4 := Below.alloc_self w3 (.cells #[.bool false, .slice none 0 0] 47)
  have i4 := i3.below k4 (Nat.le_refl _)
  refine (B_any v _ hv.1 hv.2).mono ?_
  rintro e w5 ⟨b5, rfl, g5, i5, k5⟩
  go_wp2_with fail
  refine (B_any b _ hb.1 hb.2).mono ?_
  rintro e w6 ⟨b6, rfl, g6, i6, k6⟩
  have s6 := (s4.below k5 (Nat.le_refl _)).below k6 (Nat.le_refl _)
  have i4' := (i4.below k5 (Nat.le_refl _)).below k6 (Nat.le_refl _)
  go_wp2_with fail
  refine (Mul_any w3.heap.size b5 b6 v b 2 2 w6 s6 (i5.below k6 (Nat.le_refl _)) i6 (lt_pw2 hv.1 hv.2) (lt_pw2 hb.1 hb.2) (by omega) (by omega)).mono ?_
  rintro e w7 ⟨rfl, i7, k7⟩
  have hne : w.heap.size ≠ w3.heap.size := Nat.ne_of_lt i3.lt
  have i8 := i4'.upd k7 s6 hne
  go_wp2_with fail
  refine (Add_any w.heap.size w.heap.size w3.heap.size (u * a) (v * b) 4 4 w7 i8.slot i8 i7 (mul_lt_pw (lt_pw2 hu.1 hu.2) (lt_pw2 ha.1 ha.2)) (mul_lt_pw (lt_pw2 hv.1 hv.2) (lt_pw2 hb.1 hb.2)) (by omega) (by omega)).mono ?_
  rintro e w8 ⟨rfl, i9, k9⟩
  go_wp2
  go_ret
  refine ⟨w.heap.size, rfl, Nat.le_refl _, i9, ?_⟩
  have z0 := k0.size
  have z1 := k1.size
  have z2 := k2.size
  have z3 := k3.size
  have z4 := k4.size
  have z5 := k5.size
  have z6 := k6.size
  have z7 := k7.size
  exact (((((((k0.trans (k1.mono z0)).trans (k2.mono (by omega))).trans (k3.below (by omega) (Nat.le_refl _))).trans (k4.mono (by omega))).trans (k5.mono (by omega))).trans (k6.mono (by omega))).trans (k7.below (by omega) (by omega))).trans (k9.below (by omega) (Nat.le_refl _))

end Go.Proofs.Ytcbepaionliepaa
