import Derived.Test.YtnkjadpmigpneaaGreatDoorJnAe
import Derived.Test.YtnkjadpmigpneaaGreatDoorBigN
import Derived.Test.YtnkjadpmigpneaaGreatDoorJnY
import Derived.Test.YtnkjadpmigpneaaGreatDoorJnP
section
/- Package bern: Sets. -/
set_option linter.unusedSimpArgs false
set_option linter.unusedVariables false
set_option maxRecDepth 100000
namespace Go.Proofs.YtnkjadpmigpneaaGreatDoor
open Go.RowKit LgM

set_option maxHeartbeats 2000000 in
theorem Sets_ok (n k : Nat) (w : World) (hn : n ≤ 200) (hk : k ≤ 200) (hQ : Tq w) :
    Calls Tryz.prog 33 #[.int .i64 (n : Int), .int .i64 (k : Int)] w fun e w' => e = .returned (.tuple #[.string ⟨(Lib.decDigits (BN.st n k)).toArray⟩, .agg #[.int .i64 0, .int .i64 0]]) ∧ Below w.heap.size w w' := by
  have HB : Hid (∀ W : World, Calls Tryz.prog 35 #[.int .i64 0, .int .i64 200, .slice (some ⟨W.heap.size, 0, none⟩) 2 2] (W.alloc (.cells #[.int .i64 (n : Int), .int .i64 (k : Int)] 3)) fun e w' => e = .returned (.agg #[.int .i64 0, .int .i64 0]) ∧ Below (W.heap.size + 1) (W.alloc (.cells #[.int .i64 (n : Int), .int .i64 (k : Int)] 3)) w') := fun W => by
    have := between_any 0 200 [(n : Int), (k : Int)] W.heap.size 0 2 (W.alloc (.cells #[.int .i64 (n : Int), .int .i64 (k : Int)] 3)) (by simp) (by simp) (fun j hj => two_cellB _ _ W j hj)
    rw [nb_twoB, if_pos (by omega), if_pos (by omega)] at this
    simpa using this
  have HCn : Hid (∀ W, Calls Tryz.prog 67 #[.int .i64 (n : Int), .int .i64 (k : Int)] W fun e w' => ∃ u, e = .returned (.agg #[u]) ∧ LN w' u (BN.st n k) ∧ Below W.heap.size W w') := fun W => sets_any n k W hn hk
  obtain ⟨st, hst⟩ : ∃ st : ByteArray, st = ⟨(Lib.decDigits (BN.st n k)).toArray⟩ := ⟨_, rfl⟩
  have HSt : Hid (∀ (v : Value) (W : World), LN W v (BN.st n k) → Below w.heap.size w W → Calls Tryz.prog 68 #[.agg #[v]] W fun e w' => e = .returned (.string st) ∧ Below W.heap.size W w') := fun v W h kk => by
    rw [hst]; exact String_any v _ 70 W h (st_bs hn hk) (by omega) (by omega) (hQ.below kk)
  rw [← hst]
  clear hQ hst
  go_enter Tryz.func33, Tryz.ntmps33
  obtain ⟨W0, hW0⟩ : ∃ W, w.alloc (.cells #[.int .i64 0, .int .i64 0] 23) = W := ⟨_, rfl⟩
  have S0 := Sv.new 0 0 w
  have k0 := bel_oneB w (.cells #[.int .i64 0, .int .i64 0] 23)
  have z0 : W0.heap.size = w.heap.size + 1 := by rw [← hW0]; simp
  rw [hW0] at S0 k0
  go_wp2_with fail
  rw [← z0]
  refine (HB.out W0).mono ?_
  rintro e w1 ⟨rfl, hb⟩
  have k1 : Below W0.heap.size W0 (W0.alloc (.cells #[.int .i64 (n : Int), .int .i64 (k : Int)] 3)) := bel_oneB W0 _
  have k2 : Below w.heap.size w w1 := (k0.trans (k1.mono (by omega))).trans (hb.mono (by omega))
  have S1 : Sv w.heap.size 0 0 w1 := (S0.below k1).below (hb.mono (by simp))
  have HS1 : Hid (Sv w.heap.size 0 0 w1 ∧ Below w.heap.size w w1) := ⟨S1, k2⟩
  clear HB hb k1 k2 k0 hW0 z0 S1 S0
  go_wp2_with fail
  obtain ⟨W2, hW2⟩ : ∃ W2, W2 = w1.alloc (.cells #[.int .i64 0, .int .i64 0] 23) := ⟨_, rfl⟩
  rw [← hW2]
  have HS2 : Hid (Sv w.heap.size 0 0 W2 ∧ Below w.heap.size w W2) := by
    show _ ∧ _
    rw [hW2]
    exact ⟨HS1.out.1.alloc _ _, Below.alloc HS1.out.2 HS1.out.2.size _⟩
  clear hW2
  refine (HCn.out W2).mono ?_
  rintro e w3 ⟨v, rfl, hv, k3⟩
  have HS3 : Hid (Sv w.heap.size 0 0 w3 ∧ Below w.heap.size w w3) := ⟨HS2.out.1.below k3, HS2.out.2.trans (k3.mono HS2.out.2.size)⟩
  have HLn : Hid (LN w3 v (BN.st n k)) := hv
  clear HS1 HS2 hv k3 HCn
  go_wp2_with fail
  refine (HSt.out _ _ HLn.out HS3.out.2).mono ?_
  rintro e w4 ⟨rfl, k4⟩
  have HK4 : Hid (Below w.heap.size w w4) := HS3.out.2.trans (k4.mono HS3.out.2.size)
  obtain ⟨q0, q1, q2, q3, hz⟩ := HS3.out.1.below k4
  clear k4 HS3 HLn HSt
  go_wp2
  refine bodyPost_ret (v := .tuple #[.string st, .agg #[.int .i64 0, .int .i64 0]]) (by simp [results, Tryz.results33, go_sem, q0, q1, hz]) rfl ⟨rfl, ?_⟩
  exact Below.setCell (Below.setCell HK4.out (Nat.le_refl _) _) (Nat.le_refl _) _

end Go.Proofs.YtnkjadpmigpneaaGreatDoor
end

section
/- Contracts: Uint64, Int64, bit, length. -/
set_option linter.unusedSimpArgs false
set_option linter.unusedVariables false
set_option maxRecDepth 100000
namespace Go.Proofs.YtnkjadpmigpneaaGreatDoor
open Go.RowKit
theorem length_any (s : Value) (a m : Nat) (w : World) (ha : NS w s a) (hm : a < pw m) (hm' : m ≤ 100000000) :
    Calls Tryz.prog 65 #[s] w fun e w' => ∃ L : Nat, e = .returned (.int .i64 (L : Int)) ∧ a < 2 ^ L ∧ L ≤ 3200000000 ∧ w' = w := by
  obtain ⟨l, aa, g, cap, rfl, va, na, sa, pa, cell, _, lt⟩ := ha.open
  subst va
  have l1 : l.length ≤ 100000000 := Nat.le_trans (na.len hm) hm'
  by_cases h0 : l.length = 0
  · obtain rfl : l = [] := List.length_eq_zero_iff.1 h0
    clear ha pa cell lt hm
    go_enter Tryz.func65, Tryz.ntmps65
    go_wp2
    go_ret
    exact ⟨0, rfl, by simp [val], by omega, rfl⟩
  · refine (length_core l aa g cap w (by omega) l1 sa (pa (by omega)) (cell _ (by omega))).mono ?_
    rintro e w' ⟨t, rfl, hb, ht, rfl⟩
    refine ⟨_, rfl, ?_, by omega, rfl⟩
    have h1 := val_split l (l.length - 1) (by omega)
    have h2 := take_lt l (l.length - 1) (by omega) sa
    have h3 : val (l.drop (l.length - 1 + 1)) = 0 := by rw [List.drop_eq_nil_of_le (by omega)]; rfl
    rw [h3, Nat.mul_zero, Nat.add_zero] at h1
    have h4 := hb.lt
    rw [h1, Nat.pow_add, Nat.mul_comm (l.length - 1), ← pw_two_pow]
    have h5 : pw (l.length - 1) * (l.getD (l.length - 1) 0 + 1) ≤ pw (l.length - 1) * 2 ^ t := Nat.mul_le_mul_left _ h4
    rw [Nat.mul_add, Nat.mul_one] at h5
    omega

/-- One bit of a number, out of its word. -/
theorem bit_word (l : List Nat) (i : Nat) (h : ∀ x ∈ l, x < 4294967296) (hi : i / 32 < l.length) : l.getD (i / 32) 0 / 2 ^ (i % 32) % 2 = val l / 2 ^ i % 2 := by
  rw [val_drop_shift l h i (i / 32) (i % 32) (by omega) (by omega), drop_step l (i / 32) hi]
  generalize l.getD (i / 32) 0 = x
  generalize val (l.drop (i / 32 + 1)) = V
  have hr : i % 32 < 32 := Nat.mod_lt _ (by omega)
  obtain ⟨r, gr⟩ : ∃ r, r = i % 32 := ⟨_, rfl⟩
  rw [← gr] at hr ⊢
  have e : 4294967296 * V = 2 ^ r * (2 * (2 ^ (31 - r) * V)) := by
    have : 2 ^ r * 2 * 2 ^ (31 - r) = 4294967296 := by
      rw [← Nat.pow_succ, ← Nat.pow_add, show r + 1 + (31 - r) = 32 by omega]
    rw [← Nat.mul_assoc, ← Nat.mul_assoc, this]
  rw [e, Nat.add_mul_div_left _ _ (Nat.two_pow_pos r)]
  omega

theorem low_bit (x r : Nat) (hx : x < 4294967296) : bits .and .u64 (IntKind.u64.wrap ((x : Int) / 2 ^ r)) 1 = ((x / 2 ^ r % 2 : Nat) : Int) := by
  have e : (x : Int) / 2 ^ r = ((x / 2 ^ r : Nat) : Int) := by simp
  have h : x / 2 ^ r ≤ x := Nat.div_le_self ..
  rw [e]
  generalize x / 2 ^ r = y at *
  have hw : IntKind.u64.wrap (y : Int) = (y : Int) := wrapN y (by omega)
  rw [hw]
  have := bits_and_u64_nat y 1 (by omega) (by omega)
  rw [Nat.and_one_is_mod] at this
  exact this

theorem bit_none (A i : Nat) (h : A < 2 ^ i) : A / 2 ^ i % 2 = 0 := by rw [Nat.div_eq_of_lt h]

set_option maxHeartbeats 1000000 in
theorem bit_any (s : Value) (A i m : Nat) (w : World) (hs : NS w s A) (hm : A < pw m) (hm' : m ≤ 100000000) (hi : i ≤ 4000000000) :
    Calls Tryz.prog 66 #[s, .int .i64 i] w fun e w' => e = .returned (.int .u64 ((A / 2 ^ i % 2 : Nat) : Int)) ∧ ∃ q, w' = w.drewN q := by
  obtain ⟨l, aa, g, cap, rfl, va, na, sa, pa, cell, _, lt⟩ := hs.open
  subst va
  have l1 : l.length ≤ 100000000 := Nat.le_trans (na.len hm) hm'
  by_cases h0 : i / 32 < l.length
  · obtain rfl := pa (by omega)
    have c0 := cell _ h0
    have s0 := List.getD_lt_of sa (i / 32)
    have hb := bit_word l i sa h0
    have hr : i % 32 < 32 := Nat.mod_lt _ (by omega)
    rw [← hb]
    obtain ⟨k, gk⟩ : ∃ k, k = i / 32 := ⟨_, rfl⟩
    obtain ⟨r, gr⟩ : ∃ r, r = i % 32 := ⟨_, rfl⟩
    rw [← gk] at c0 s0 h0 ⊢
    rw [← gr] at hr ⊢
    obtain ⟨x, gx⟩ : ∃ x, x = l.getD k 0 := ⟨_, rfl⟩
    rw [← gx] at c0 s0 ⊢
    have ek : (i : Int) / 32 = (k : Int) := by omega
    have er : (i : Int) % 32 = (r : Int) := by omega
    clear hs hm lt cell pa sa na hb gk gr gx
    go_enter Tryz.func66, Tryz.ntmps66
    go_wp2
    go_ret
    exact ⟨ret_int (low_bit x r s0), 0, rfl⟩
  · have hz : val l / 2 ^ i % 2 = 0 := by
      refine bit_none _ _ ?_
      have h1 := val_lt l sa
      rw [pw_two_pow] at h1
      exact Nat.lt_of_lt_of_le h1 (Nat.pow_le_pow_right (by omega) (by omega))
    rw [hz]
    clear hs hm lt cell pa sa na hz
    go_enter Tryz.func66, Tryz.ntmps66
    go_wp2
    go_ret
    exact ⟨rfl, 0, rfl⟩

end Go.Proofs.YtnkjadpmigpneaaGreatDoor
end

section
/- The contract of Exp, with a modulus and without one. -/
set_option linter.unusedSimpArgs false
set_option linter.unusedVariables false
set_option maxRecDepth 100000
namespace Go.Proofs.YtnkjadpmigpneaaGreatDoor
open Go.RowKit

theorem half_bit (Y i : Nat) : Y / 2 ^ i = 2 * (Y / 2 ^ (i + 1)) + Y / 2 ^ i % 2 := by
  rw [Nat.pow_succ, ← Nat.div_div_eq_div_mul]; omega

theorem ipow_add (x : Int) (m n : Nat) : x ^ (m + n) = x ^ m * x ^ n := by
  induction n with
  | zero => simp
  | succ k ih => rw [← Nat.add_assoc, Int.pow_succ, ih, Int.pow_succ, Int.mul_assoc]

theorem exp_sq (x d : Int) (k : Nat) : (x ^ k % d) * (x ^ k % d) % d = x ^ (2 * k) % d := by
  rw [← Int.mul_emod, ← ipow_add, Nat.two_mul]
theorem exp_one (x d : Int) (k : Nat) : (x ^ k % d) * x % d = x ^ (k + 1) % d := by
  rw [Int.mul_emod, Int.emod_emod, ← Int.mul_emod, Int.pow_succ]

theorem emod_lt_pw (t : Int) {d md : Nat} (h0 : 0 < d) (h : d < pw md) : (t % (d : Int)).natAbs < pw md := by
  have h1 := Int.emod_nonneg t (show (d : Int) ≠ 0 by omega)
  have h2 := Int.emod_lt_of_pos t (show 0 < (d : Int) by omega)
  omega
theorem mulN_lt {x y : Int} {m n : Nat} (hx : x.natAbs < pw m) (hy : y.natAbs < pw n) : (x * y).natAbs < pw (m + n) := by
  rw [Int.natAbs_mul, pw_add]; exact Nat.mul_lt_mul'' hx hy

set_option maxHeartbeats 2000000 in
theorem Exp_mod (bz bx by' bm : Nat) (x : Int) (Y d mx my md : Nat) (w : World) (hz : Slot w bz) (hx : BigAt w bx x) (hy : BigAt w by' (Y : Int)) (hm : BigAt w bm (d : Int)) (hd0 : 0 < d) (lx : x.natAbs < pw mx) (ly : Y < pw my) (ld : d < pw md) (lx' : mx ≤ 40000000) (ly' : my ≤ 40000000) (ld' : md ≤ 40000000) :
    Calls Tryz.prog 31 #[.pointer (some ⟨bz, 0, none⟩), .pointer (some ⟨bx, 0, none⟩), .pointer (some ⟨by', 0, none⟩), .pointer (some ⟨bm, 0, none⟩)] w fun e w' => e = .returned (.pointer (some ⟨bz, 0, none⟩)) ∧ BigAt w' bz (x ^ Y % (d : Int)) ∧ Upd bz w w' := by
  obtain ⟨ya, yl, yc, cy0, cy1, ny, _⟩ := hy.open
  obtain ⟨ma, ml, mc, cm0, cm1, nm, hml⟩ := hm.open
  have zlt := hz.lt
  have mlt := hm.lt
  have ylt := hy.lt
  have t1 : 0 < ml := hml.2 (by omega)
  have HZ : Hid (Slot w bz) := hz
  have HX : Hid (BigAt w bx x) := hx
  have HY : Hid (BigAt w by' (Y : Int)) := hy
  have HM : Hid (BigAt w bm (d : Int)) := hm
  have HNY : Hid (NS w (.slice ya yl yc) Y) := by have h := ny; show NS _ _ _; simpa using h
  have LX : Hid (x.natAbs < pw mx) := lx
  have LY : Hid (Y < pw my) := ly
  have LD : Hid (d < pw md) := ld
  rw [decide_eq_false (show ¬ (Y : Int) < 0 by omega)] at cy0
  clear hz hx hy hm ny nm hml lx ly ld cm0
  go_enter Tryz.func31, Tryz.ntmps31
  go_wp2_with fail
  refine (Set_any w.heap.size bx x mx _ (slot_new w _ _) (HX.out.below (Below.alloc_self' w _) (Nat.le_refl _)) LX.out (by omega)).mono ?_
  rintro e w1 ⟨rfl, h1, u1⟩
  have k1 : Below w.heap.size w w1 := (Below.alloc_self' w _).trans (u1.below (by simp) (Nat.le_refl _))
  have z1 : w.heap.size < w1.heap.size := h1.lt
  have dy0 : w1.cell? ⟨by', 0, none⟩ = some (.bool false) := (k1.cell (p := ⟨by', 0, none⟩) ylt).trans cy0
  have dy1 : w1.cell? ⟨by', 1, none⟩ = some (.slice ya yl yc) := (k1.cell (p := ⟨by', 1, none⟩) ylt).trans cy1
  have HB1 : Hid (BigAt w1 w.heap.size x) := h1
  have HK1 : Hid (Below w.heap.size w w1) := k1
  clear h1 u1 k1 cy0 cy1
  go_wp2_with fail
  refine (NewInt_any 1 _ (by omega) (by omega)).mono ?_
  rintro e w2 ⟨br, rfl, p2, h2, k2⟩
  have z2 := k2.size
  have lbr : br < w2.heap.size := h2.lt
  have ey1 : w2.cell? ⟨by', 1, none⟩ = some (.slice ya yl yc) := (k2.cell (p := ⟨by', 1, none⟩) (show by' < w1.heap.size by omega)).trans dy1
  have HR2 : Hid (BigAt w2 br 1) := h2
  have HB2 : Hid (BigAt w2 w.heap.size x) := HB1.out.below k2 (Nat.le_refl _)
  have HK2 : Hid (Below w.heap.size w w2) := HK1.out.trans (k2.mono (by omega))
  have HN2 : Hid (NS w2 (.slice ya yl yc) Y) := HNY.out.below HK2.out (Nat.le_refl _)
  clear h2 k2 HB1 HK1 dy0 dy1
  go_wp2_with fail
  refine (twin_any _ Y my _ HN2.out LY.out (by omega)).mono ?_
  rintro e w3 ⟨ev, rfl, h3, k3⟩
  obtain ⟨ea, el, ec, rfl, _⟩ := h3.shape
  have z3 := k3.size
  have HE3 : Hid (NS w3 (.slice ea el ec) Y) := h3
  have HR3 : Hid (BigAt w3 br 1) := HR2.out.below k3 (Nat.le_refl _)
  have HB3 : Hid (BigAt w3 w.heap.size x) := HB2.out.below k3 (Nat.le_refl _)
  have HK3 : Hid (Below w.heap.size w w3) := HK2.out.trans (k3.mono (by omega))
  have HM3 : Hid (BigAt w3 bm (d : Int)) := HM.out.below HK3.out (Nat.le_refl _)
  clear h3 k3 HR2 HB2 HK2 HN2 ey1
  go_wp2_with fail
  refine (Abs_any w3.heap.size bm (d : Int) md _ (slot_new w3 _ _) (HM3.out.below (Below.alloc_self' w3 _) (Nat.le_refl _)) (by show (d : Int).natAbs < pw md; rw [Int.natAbs_natCast]; exact LD.out) (by omega)).mono ?_
  rw [show (((d : Int).natAbs : Nat) : Int) = (d : Int) by omega]
  rintro e w4 ⟨rfl, h4, u4⟩
  have k4 : Below w3.heap.size w3 w4 := (Below.alloc_self' w3 _).trans (u4.below (by simp) (Nat.le_refl _))
  have z4 : w3.heap.size < w4.heap.size := h4.lt
  have HD4 : Hid (BigAt w4 w3.heap.size (d : Int)) := h4
  have HE4 : Hid (NS w4 (.slice ea el ec) Y) := HE3.out.below k4 (Nat.le_refl _)
  have HR4 : Hid (BigAt w4 br 1) := HR3.out.below k4 (Nat.le_refl _)
  have HB4 : Hid (BigAt w4 w.heap.size x) := HB3.out.below k4 (Nat.le_refl _)
  have HK4 : Hid (Below w.heap.size w w4) := HK3.out.trans (k4.mono (by omega))
  clear h4 u4 k4 HE3 HR3 HB3 HK3 HM3
  go_wp2_with fail
  refine (Mod_any br br w3.heap.size 1 (d : Int) 1 md _ HR4.out.slot HR4.out HD4.out (by omega) (by decide) (by show (d : Int).natAbs < pw md; rw [Int.natAbs_natCast]; exact LD.out) (by omega) (by omega)).mono ?_
  rintro e w5 ⟨rfl, h5, u5⟩
  have z5 := u5.size
  have HR5 : Hid (BigAt w5 br ((1 : Int) % (d : Int))) := h5
  have HD5 : Hid (BigAt w5 w3.heap.size (d : Int)) := HD4.out.upd u5 HR4.out.slot (by omega)
  have HE5 : Hid (NS w5 (.slice ea el ec) Y) := HE4.out.upd u5 HR4.out.slot
  have HB5 : Hid (BigAt w5 w.heap.size x) := HB4.out.upd u5 HR4.out.slot (by omega)
  have HK5 : Hid (Below w.heap.size w w5) := HK4.out.trans (u5.below (by omega) (by omega))
  clear h5 u5 HD4 HE4 HR4 HB4 HK4
  go_wp2_with fail
  refine (length_any _ Y my _ HE5.out LY.out (by omega)).mono ?_
  rintro e w6 ⟨L, rfl, hL, hLb, rfl⟩
  have HL : Hid (Y < 2 ^ L) := hL
  clear hL
  go_wp2_with fail
  go_loopw [14] (fun iv wx => ∃ k : Nat, k ≤ L ∧ iv = .int .i64 ((k : Int) - 1) ∧ Hid (BigAt wx br (x ^ (Y / 2 ^ k) % (d : Int)) ∧ BigAt wx w.heap.size x ∧ BigAt wx w3.heap.size (d : Int) ∧ NS wx (.slice ea el ec) Y ∧ Below w.heap.size w wx ∧ w6.heap.size ≤ wx.heap.size)) (fun iv _ => (intOf iv + 1).toNat)
  case atStart =>
    refine ⟨L, Nat.le_refl _, by go_num, ?_, HB5.out, HD5.out, HE5.out, HK5.out, Nat.le_refl _⟩
    rw [Nat.div_eq_of_lt HL.out, Int.pow_zero]
    exact HR5.out
  case round =>
    clear HR5 HD5 HE5 HB5 HK5
    obtain ⟨k, hk, hiv, HR0⟩ := hrel
    have HR : Hid (BigAt wr br (x ^ (Y / 2 ^ k) % (d : Int))) := HR0.out.1
    have HB : Hid (BigAt wr w.heap.size x) := HR0.out.2.1
    have HD : Hid (BigAt wr w3.heap.size (d : Int)) := HR0.out.2.2.1
    have HE : Hid (NS wr (.slice ea el ec) Y) := HR0.out.2.2.2.1
    have HK : Hid (Below w.heap.size w wr) := HR0.out.2.2.2.2.1
    have zr : w6.heap.size ≤ wr.heap.size := HR0.out.2.2.2.2.2
    clear HR0
    by_cases h0 : k = 0
    · subst h0
      subst hiv
      have HR' : Hid (BigAt wr br (x ^ Y % (d : Int))) := by have h := HR.out; rw [Nat.pow_zero, Nat.div_one] at h; exact h
      clear HR
      go_wp2_with fail
      refine (Set_any bz br (x ^ Y % (d : Int)) md _ (HZ.out.below HK.out (Nat.le_refl _)) HR'.out (emod_lt_pw _ hd0 LD.out) (by omega)).mono ?_
      rintro e w7 ⟨rfl, h7, u7⟩
      go_wp2
      go_ret
      exact ⟨rfl, h7, Upd.then_below HK.out u7⟩
    · obtain ⟨j, rfl⟩ : ∃ j, k = j + 1 := ⟨k - 1, by omega⟩
      have hiv2 := hiv.trans (show Value.int .i64 (((j + 1 : Nat) : Int) - 1) = Value.int .i64 (j : Int) from by congr 1; omega)
      subst hiv2
      clear hiv
      obtain ⟨R, gR⟩ : ∃ R, R = x ^ (Y / 2 ^ (j + 1)) % (d : Int) := ⟨_, rfl⟩
      have lR : R.natAbs < pw md := by rw [gR]; exact emod_lt_pw _ hd0 LD.out
      have LR : Hid (R.natAbs < pw md) := lR
      have HR' : Hid (BigAt wr br R) := by rw [gR]; exact HR.out
      have HSQ : Hid (R * R % (d : Int) = x ^ (2 * (Y / 2 ^ (j + 1))) % (d : Int)) := by show _ = _; rw [gR, exp_sq]
      clear gR lR HR
      go_wp2_with fail
      refine (Mul_any br br br R R md md _ HR'.out.slot HR'.out HR'.out LR.out LR.out (by omega) (by omega)).mono ?_
      rintro e w7 ⟨rfl, h7, u7⟩
      have z7 := u7.size
      have HR7 : Hid (BigAt w7 br (R * R)) := h7
      have HB7 : Hid (BigAt w7 w.heap.size x) := HB.out.upd u7 HR'.out.slot (by omega)
      have HD7 : Hid (BigAt w7 w3.heap.size (d : Int)) := HD.out.upd u7 HR'.out.slot (by omega)
      have HE7 : Hid (NS w7 (.slice ea el ec) Y) := HE.out.upd u7 HR'.out.slot
      have HK7 : Hid (Below w.heap.size w w7) := HK.out.trans (u7.below (by omega) (by omega))
      clear h7 u7 HB HD HE HK HR'
      go_wp2_with fail
      refine (Mod_any br br w3.heap.size (R * R) (d : Int) (md + md) md _ HR7.out.slot HR7.out HD7.out (by omega) (mulN_lt LR.out LR.out) (by show (d : Int).natAbs < pw md; rw [Int.natAbs_natCast]; exact LD.out) (by omega) (by omega)).mono ?_
      rw [HSQ.out]
      rintro e w8 ⟨rfl, h8, u8⟩
      have z8 := u8.size
      have HR8 : Hid (BigAt w8 br (x ^ (2 * (Y / 2 ^ (j + 1))) % (d : Int))) := h8
      have HB8 : Hid (BigAt w8 w.heap.size x) := HB7.out.upd u8 HR7.out.slot (by omega)
      have HD8 : Hid (BigAt w8 w3.heap.size (d : Int)) := HD7.out.upd u8 HR7.out.slot (by omega)
      have HE8 : Hid (NS w8 (.slice ea el ec) Y) := HE7.out.upd u8 HR7.out.slot
      have HK8 : Hid (Below w.heap.size w w8) := HK7.out.trans (u8.below (by omega) (by omega))
      clear h8 u8 HB7 HD7 HE7 HK7 HR7
      go_wp2_with fail
      refine (bit_any _ Y j my _ HE8.out LY.out (by omega) (by omega)).mono ?_
      have hhb := half_bit Y j
      rcases Nat.mod_two_eq_zero_or_one (Y / 2 ^ j) with hb | hb
      · rw [hb] at hhb
        have HR9 : Hid (BigAt w8 br (x ^ (Y / 2 ^ j) % (d : Int))) := by
          have h := HR8.out
          rw [show 2 * (Y / 2 ^ (j + 1)) = Y / 2 ^ j by omega] at h
          exact h
        rw [hb]
        clear hb hhb HR8
        rintro e w9 ⟨rfl, q9, rfl⟩
        go_wp2
        go_roundw
        case rel => exact ⟨j, by omega, rfl, HR9.out.drewN, HB8.out.drewN, HD8.out.drewN, HE8.out.drewN, below_drewN' HK8.out, (show w6.heap.size ≤ w8.heap.size by omega)⟩
        case measure => simp [intOf]
      · rw [hb] at hhb
        have HO : Hid (x ^ (2 * (Y / 2 ^ (j + 1))) % (d : Int) * x % (d : Int) = x ^ (Y / 2 ^ j) % (d : Int)) := by
          show _ = _
          rw [exp_one, show 2 * (Y / 2 ^ (j + 1)) + 1 = Y / 2 ^ j by omega]
        rw [hb]
        clear hb hhb
        obtain ⟨T, gT⟩ : ∃ T, T = x ^ (2 * (Y / 2 ^ (j + 1))) % (d : Int) := ⟨_, rfl⟩
        have LT : Hid (T.natAbs < pw md) := by rw [gT]; exact emod_lt_pw _ hd0 LD.out
        rw [← gT] at HO HR8
        clear gT
        rintro e w9 ⟨rfl, q9, hw9⟩
        have z9 : w8.heap.size ≤ w9.heap.size := by rw [hw9]; exact Nat.le_refl _
        have HR9 : Hid (BigAt w9 br T) := by rw [hw9]; exact HR8.out.drewN
        have HB9 : Hid (BigAt w9 w.heap.size x) := by rw [hw9]; exact HB8.out.drewN
        have HD9 : Hid (BigAt w9 w3.heap.size (d : Int)) := by rw [hw9]; exact HD8.out.drewN
        have HE9 : Hid (NS w9 (.slice ea el ec) Y) := by rw [hw9]; exact HE8.out.drewN
        have HK9 : Hid (Below w.heap.size w w9) := by rw [hw9]; exact below_drewN' HK8.out
        clear hw9 HR8 HB8 HD8 HE8 HK8
        go_wp2_with fail
        refine (Mul_any br br w.heap.size T x md mx _ HR9.out.slot HR9.out HB9.out LT.out LX.out (by omega) (by omega)).mono ?_
        rintro e w10 ⟨rfl, h10, u10⟩
        have z10 := u10.size
        have HR10 : Hid (BigAt w10 br (T * x)) := h10
        have HB10 : Hid (BigAt w10 w.heap.size x) := HB9.out.upd u10 HR9.out.slot (by omega)
        have HD10 : Hid (BigAt w10 w3.heap.size (d : Int)) := HD9.out.upd u10 HR9.out.slot (by omega)
        have HE10 : Hid (NS w10 (.slice ea el ec) Y) := HE9.out.upd u10 HR9.out.slot
        have HK10 : Hid (Below w.heap.size w w10) := HK9.out.trans (u10.below (by omega) (by omega))
        clear h10 u10 HB9 HD9 HE9 HK9 HR9
        go_wp2_with fail
        refine (Mod_any br br w3.heap.size (T * x) (d : Int) (md + mx) md _ HR10.out.slot HR10.out HD10.out (by omega) (mulN_lt LT.out LX.out) (by show (d : Int).natAbs < pw md; rw [Int.natAbs_natCast]; exact LD.out) (by omega) (by omega)).mono ?_
        rw [HO.out]
        rintro e w11 ⟨rfl, h11, u11⟩
        have z11 := u11.size
        have HB11 : Hid (BigAt w11 w.heap.size x) := HB10.out.upd u11 HR10.out.slot (by omega)
        have HD11 : Hid (BigAt w11 w3.heap.size (d : Int)) := HD10.out.upd u11 HR10.out.slot (by omega)
        have HE11 : Hid (NS w11 (.slice ea el ec) Y) := HE10.out.upd u11 HR10.out.slot
        have HK11 : Hid (Below w.heap.size w w11) := HK10.out.trans (u11.below (by omega) (by omega))
        have HR11 : Hid (BigAt w11 br (x ^ (Y / 2 ^ j) % (d : Int))) := h11
        clear h11 u11 HB10 HD10 HE10 HK10 HR10
        go_wp2
        go_roundw
        case rel => exact ⟨j, by omega, rfl, HR11.out, HB11.out, HD11.out, HE11.out, HK11.out, by omega⟩
        case measure => simp [intOf]

theorem ipow_lt {x : Int} {mx : Nat} (h : x.natAbs < pw mx) (k Y : Nat) (hk : k ≤ Y) : (x ^ k).natAbs < pw (mx * Y + 1) := by
  have h1 : ∀ k, (x ^ k).natAbs ≤ pw (mx * k) := by
    intro k
    induction k with
    | zero => simp [pw]
    | succ n ih =>
      rw [Int.pow_succ, Int.natAbs_mul, Nat.mul_succ, pw_add]
      exact Nat.mul_le_mul ih (Nat.le_of_lt h)
  have h2 := h1 k
  have h3 := pw_le (Nat.mul_le_mul_left mx hk)
  have h4 : pw (mx * Y + 1) = 4294967296 * pw (mx * Y) := rfl
  have h5 := pw_pos (mx * Y)
  omega

theorem exp_sq0 (x : Int) (k : Nat) : x ^ k * x ^ k = x ^ (2 * k) := by rw [← ipow_add, Nat.two_mul]

set_option maxHeartbeats 2000000 in
theorem Exp_nil (bz bx by' : Nat) (x : Int) (Y mx my : Nat) (w : World) (hz : Slot w bz) (hx : BigAt w bx x) (hy : BigAt w by' (Y : Int)) (lx : x.natAbs < pw mx) (ly : Y < pw my) (lx' : mx * Y + 1 ≤ 40000000) (lm : mx ≤ 40000000) (ly' : my ≤ 40000000) :
    Calls Tryz.prog 31 #[.pointer (some ⟨bz, 0, none⟩), .pointer (some ⟨bx, 0, none⟩), .pointer (some ⟨by', 0, none⟩), .pointer none] w fun e w' => e = .returned (.pointer (some ⟨bz, 0, none⟩)) ∧ BigAt w' bz (x ^ Y) ∧ Upd bz w w' := by
  obtain ⟨ya, yl, yc, cy0, cy1, ny, _⟩ := hy.open
  have zlt := hz.lt
  have ylt := hy.lt
  have HZ : Hid (Slot w bz) := hz
  have HX : Hid (BigAt w bx x) := hx
  have HNY : Hid (NS w (.slice ya yl yc) Y) := by have h := ny; show NS _ _ _; simpa using h
  have LX : Hid (x.natAbs < pw mx) := lx
  have LY : Hid (Y < pw my) := ly
  have LP : Hid (∀ k, k ≤ Y → (x ^ k).natAbs < pw (mx * Y + 1)) := fun k hk => ipow_lt lx k Y hk
  obtain ⟨B, gB⟩ : ∃ B, B = mx * Y + 1 := ⟨_, rfl⟩
  rw [← gB] at LP lx'
  rw [decide_eq_false (show ¬ (Y : Int) < 0 by omega)] at cy0
  clear hz hx hy ny lx ly gB
  go_enter Tryz.func31, Tryz.ntmps31
  go_wp2_with fail
  refine (Set_any w.heap.size bx x mx _ (slot_new w _ _) (HX.out.below (Below.alloc_self' w _) (Nat.le_refl _)) LX.out (by omega)).mono ?_
  rintro e w1 ⟨rfl, h1, u1⟩
  have k1 : Below w.heap.size w w1 := (Below.alloc_self' w _).trans (u1.below (by simp) (Nat.le_refl _))
  have z1 : w.heap.size < w1.heap.size := h1.lt
  have dy0 : w1.cell? ⟨by', 0, none⟩ = some (.bool false) := (k1.cell (p := ⟨by', 0, none⟩) ylt).trans cy0
  have dy1 : w1.cell? ⟨by', 1, none⟩ = some (.slice ya yl yc) := (k1.cell (p := ⟨by', 1, none⟩) ylt).trans cy1
  have HB1 : Hid (BigAt w1 w.heap.size x) := h1
  have HK1 : Hid (Below w.heap.size w w1) := k1
  clear h1 u1 k1 cy0 cy1
  go_wp2_with fail
  refine (NewInt_any 1 _ (by omega) (by omega)).mono ?_
  rintro e w2 ⟨br, rfl, p2, h2, k2⟩
  have z2 := k2.size
  have lbr : br < w2.heap.size := h2.lt
  have ey1 : w2.cell? ⟨by', 1, none⟩ = some (.slice ya yl yc) := (k2.cell (p := ⟨by', 1, none⟩) (show by' < w1.heap.size by omega)).trans dy1
  have HR2 : Hid (BigAt w2 br 1) := h2
  have HB2 : Hid (BigAt w2 w.heap.size x) := HB1.out.below k2 (Nat.le_refl _)
  have HK2 : Hid (Below w.heap.size w w2) := HK1.out.trans (k2.mono (by omega))
  have HN2 : Hid (NS w2 (.slice ya yl yc) Y) := HNY.out.below HK2.out (Nat.le_refl _)
  clear h2 k2 HB1 HK1 dy0 dy1
  go_wp2_with fail
  refine (twin_any _ Y my _ HN2.out LY.out (by omega)).mono ?_
  rintro e w3 ⟨ev, rfl, h3, k3⟩
  obtain ⟨ea, el, ec, rfl, _⟩ := h3.shape
  have z3 := k3.size
  have HE5 : Hid (NS w3 (.slice ea el ec) Y) := h3
  have HR5 : Hid (BigAt w3 br 1) := HR2.out.below k3 (Nat.le_refl _)
  have HB5 : Hid (BigAt w3 w.heap.size x) := HB2.out.below k3 (Nat.le_refl _)
  have HK5 : Hid (Below w.heap.size w w3) := HK2.out.trans (k3.mono (by omega))
  clear h3 k3 HR2 HB2 HK2 HN2 ey1
  go_wp2_with fail
  refine (length_any _ Y my _ HE5.out LY.out (by omega)).mono ?_
  rintro e w6 ⟨L, rfl, hL, hLb, rfl⟩
  have HL : Hid (Y < 2 ^ L) := hL
  clear hL
  go_wp2_with fail
  go_loopw [14] (fun iv wx => ∃ k : Nat, k ≤ L ∧ iv = .int .i64 ((k : Int) - 1) ∧ Hid (BigAt wx br (x ^ (Y / 2 ^ k)) ∧ BigAt wx w.heap.size x ∧ NS wx (.slice ea el ec) Y ∧ Below w.heap.size w wx ∧ w6.heap.size ≤ wx.heap.size)) (fun iv _ => (intOf iv + 1).toNat)
  case atStart =>
    refine ⟨L, Nat.le_refl _, by go_num, ?_, HB5.out, HE5.out, HK5.out, Nat.le_refl _⟩
    rw [Nat.div_eq_of_lt HL.out, Int.pow_zero]
    exact HR5.out
  case round =>
    clear HR5 HE5 HB5 HK5
    obtain ⟨k, hk, hiv, HR0⟩ := hrel
    have HR : Hid (BigAt wr br (x ^ (Y / 2 ^ k))) := HR0.out.1
    have HB : Hid (BigAt wr w.heap.size x) := HR0.out.2.1
    have HE : Hid (NS wr (.slice ea el ec) Y) := HR0.out.2.2.1
    have HK : Hid (Below w.heap.size w wr) := HR0.out.2.2.2.1
    have zr : w6.heap.size ≤ wr.heap.size := HR0.out.2.2.2.2
    clear HR0
    by_cases h0 : k = 0
    · subst h0
      subst hiv
      have HR' : Hid (BigAt wr br (x ^ Y)) := by have h := HR.out; rw [Nat.pow_zero, Nat.div_one] at h; exact h
      clear HR
      go_wp2_with fail
      refine (Set_any bz br (x ^ Y) B _ (HZ.out.below HK.out (Nat.le_refl _)) HR'.out (LP.out Y (Nat.le_refl _)) (by omega)).mono ?_
      rintro e w7 ⟨rfl, h7, u7⟩
      go_wp2
      go_ret
      exact ⟨rfl, h7, Upd.then_below HK.out u7⟩
    · obtain ⟨j, rfl⟩ : ∃ j, k = j + 1 := ⟨k - 1, by omega⟩
      have hiv2 := hiv.trans (show Value.int .i64 (((j + 1 : Nat) : Int) - 1) = Value.int .i64 (j : Int) from by congr 1; omega)
      subst hiv2
      clear hiv
      have hle1 : Y / 2 ^ j ≤ Y := Nat.div_le_self ..
      have hhb := half_bit Y j
      have LR : Hid ((x ^ (Y / 2 ^ (j + 1))).natAbs < pw B) := LP.out _ (Nat.div_le_self ..)
      have LT : Hid ((x ^ (2 * (Y / 2 ^ (j + 1)))).natAbs < pw B) := LP.out _ (by omega)
      have HSQ : Hid (x ^ (Y / 2 ^ (j + 1)) * x ^ (Y / 2 ^ (j + 1)) = x ^ (2 * (Y / 2 ^ (j + 1)))) := exp_sq0 x _
      have HON : Hid (x ^ (2 * (Y / 2 ^ (j + 1))) * x = x ^ (2 * (Y / 2 ^ (j + 1)) + 1)) := (Int.pow_succ ..).symm
      have HHB : Hid (Y / 2 ^ j = 2 * (Y / 2 ^ (j + 1)) + Y / 2 ^ j % 2) := hhb
      clear hhb hle1
      go_wp2_with fail
      refine (Mul_any br br br _ _ B B _ HR.out.slot HR.out HR.out LR.out LR.out (by omega) (by omega)).mono ?_
      rw [HSQ.out]
      rintro e w8 ⟨rfl, h8, u8⟩
      have z8 := u8.size
      have HR8 : Hid (BigAt w8 br (x ^ (2 * (Y / 2 ^ (j + 1))))) := h8
      have HB8 : Hid (BigAt w8 w.heap.size x) := HB.out.upd u8 HR.out.slot (by omega)
      have HE8 : Hid (NS w8 (.slice ea el ec) Y) := HE.out.upd u8 HR.out.slot
      have HK8 : Hid (Below w.heap.size w w8) := HK.out.trans (u8.below (by omega) (by omega))
      clear h8 u8 HB HE HK HR
      go_wp2_with fail
      refine (bit_any _ Y j my _ HE8.out LY.out (by omega) (by omega)).mono ?_
      rcases Nat.mod_two_eq_zero_or_one (Y / 2 ^ j) with hb | hb
      · have HR9 : Hid (BigAt w8 br (x ^ (Y / 2 ^ j))) := by
          have h := HR8.out
          have h2 := HHB.out
          rw [hb] at h2
          rw [show 2 * (Y / 2 ^ (j + 1)) = Y / 2 ^ j by omega] at h
          exact h
        rw [hb]
        clear hb HR8
        rintro e w9 ⟨rfl, q9, rfl⟩
        go_wp2
        go_roundw
        case rel => exact ⟨j, by omega, rfl, HR9.out.drewN, HB8.out.drewN, HE8.out.drewN, below_drewN' HK8.out, (show w6.heap.size ≤ w8.heap.size by omega)⟩
        case measure => simp [intOf]
      · have HO : Hid (x ^ (2 * (Y / 2 ^ (j + 1))) * x = x ^ (Y / 2 ^ j)) := by
          have h2 := HHB.out
          rw [hb] at h2
          show _ = _
          rw [HON.out, ← h2]
        rw [hb]
        clear hb
        rintro e w9 ⟨rfl, q9, hw9⟩
        have z9 : w8.heap.size ≤ w9.heap.size := by rw [hw9]; exact Nat.le_refl _
        have HR9 : Hid (BigAt w9 br (x ^ (2 * (Y / 2 ^ (j + 1))))) := by rw [hw9]; exact HR8.out.drewN
        have HB9 : Hid (BigAt w9 w.heap.size x) := by rw [hw9]; exact HB8.out.drewN
        have HE9 : Hid (NS w9 (.slice ea el ec) Y) := by rw [hw9]; exact HE8.out.drewN
        have HK9 : Hid (Below w.heap.size w w9) := by rw [hw9]; exact below_drewN' HK8.out
        clear hw9 HR8 HB8 HE8 HK8
        go_wp2_with fail
        refine (Mul_any br br w.heap.size _ x B mx _ HR9.out.slot HR9.out HB9.out LT.out LX.out (by omega) (by omega)).mono ?_
        rw [HO.out]
        rintro e w10 ⟨rfl, h10, u10⟩
        have z10 := u10.size
        have HR10 : Hid (BigAt w10 br (x ^ (Y / 2 ^ j))) := h10
        have HB10 : Hid (BigAt w10 w.heap.size x) := HB9.out.upd u10 HR9.out.slot (by omega)
        have HE10 : Hid (NS w10 (.slice ea el ec) Y) := HE9.out.upd u10 HR9.out.slot
        have HK10 : Hid (Below w.heap.size w w10) := HK9.out.trans (u10.below (by omega) (by omega))
        clear h10 u10 HB9 HE9 HK9 HR9
        go_wp2
        go_roundw
        case rel => exact ⟨j, by omega, rfl, HR10.out, HB10.out, HE10.out, HK10.out, by omega⟩
        case measure => simp [intOf]

end Go.Proofs.YtnkjadpmigpneaaGreatDoor
end
