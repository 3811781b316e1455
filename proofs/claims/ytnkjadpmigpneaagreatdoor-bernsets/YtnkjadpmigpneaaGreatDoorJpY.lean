import Derived.Test.YtnkjadpmigpneaaGreatDoorBrS
import Derived.Test.YtnkjadpmigpneaaGreatDoorBigN
import Derived.Test.YtnkjadpmigpneaaGreatDoorJpV
import Derived.Test.YtnkjadpmigpneaaGreatDoorJpN
import Derived.Test.YtnkjadpmigpneaaGreatDoorJpE
import Derived.Test.YtnkjadpmigpneaaGreatDoorJpS
import Derived.Laws.StructEq
import Derived.Test.YtnkjadpmigpneaaGreatDoorJpK
import Derived.Deep.LoopGhost
section
set_option linter.unusedSimpArgs false
set_option linter.unusedVariables false
set_option maxRecDepth 100000
namespace Go.Proofs.YtnkjadpmigpneaaGreatDoor
open Go.RowKit LgM
set_option maxHeartbeats 2000000 in
theorem Sets_ok (n k : Nat) (w : World) (hn : n ≤ 200) (hk : k ≤ 200) (hQ : Tq w) :
    Calls Tryz.prog 33 #[.int .i64 (n : Int), .int .i64 (k : Int)] w fun e w' => e = .returned (.tuple #[.string ⟨(Lib.decDigits (BN.st n k)).toArray⟩, .agg #[.int .i64 0, .int .i64 0]]) ∧ Below w.heap.size w w' := by
  have HB : Hid (∀ W : World, Calls Tryz.prog 35 #[.int .i64 0, .int .i64 200, .slice (some ⟨W.heap.size, 0, none⟩) 2 2] (W.alloc (.cells #[.int .i64 (n : Int), .int .i64 (k : Int)] 3)) fun e w' => e = .returned (.agg #[.int .i64 0, .int .i64 0]) ∧ Below (W.heap.size + 1) (W.alloc (.cells #[.int .i64 (n : Int), .int .i64 (k : Int)] 3)) w') := fun W => by
    have := between_any 0 200 [(n : Int), (k : Int)] W.heap.size 0 2 (W.alloc (.cells #[.int .i64 (n : Int), .int .i64 (k : Int)] 3)) (by simp) (by simp) (fun j hj => two_cellB _ _ W j hj)
    rw [nb_twoB, if_pos (by omega), if_pos (by omega)] at this
    simpa using this
  have HCn : Hid (∀ W, Calls Tryz.prog 67 #[.int .i64 (n : Int), .int .i64 (k : Int)] W fun e w' => ∃ u, e = .returned (.agg #[u]) ∧ LN w' u (BN.st n k) ∧ Below W.heap.size W w') := fun W => sets_any n k W hn hk
  obtain ⟨st, hst⟩ : ∃ st : ByteArray, st = ⟨(Lib.decDigits (BN.st n k)).toArray⟩ := ⟨_, rfl⟩
  have HSt : Hid (∀ (v : Value) (W : World), LN W v (BN.st n k) → Below w.heap.size w W → Calls Tryz.prog 68 #[.agg #[v]] W fun e w' => e = .returned (.string st) ∧ Below W.heap.size W w') := fun v W h kk => by
    rw [hst]; exact String_any v _ 70 W h (st_bs hn hk) (by omega) (by omega) (hQ.below kk)
  rw [← hst]
  clear hQ hst
  go_enter Tryz.func33, Tryz.ntmps33
  obtain ⟨W0, hW0⟩ : ∃ W, w.alloc (.cells #[.int .i64 0, .int .i64 0] 23) = W := ⟨_, rfl⟩
  have S0 := Sv.new 0 0 w
  have k0 := bel_oneB w (.cells #[.int .i64 0, .int .i64 0] 23)
  have z0 : W0.heap.size = w.heap.size + 1 := by rw [← hW0]; simp
  rw [hW0] at S0 k0
  go_wp2_with fail
  rw [← z0]
  refine (HB.out W0).mono ?_
  rintro e w1 ⟨rfl, hb⟩
  have k1 : Below W0.heap.size W0 (W0.alloc (.cells #[.int .i64 (n : Int), .int .i64 (k : Int)] 3)) := bel_oneB W0 _
  have k2 : Below w.heap.size w w1 := (k0.trans (k1.mono (by omega))).trans (hb.mono (by omega))
  have S1 : Sv w.heap.size 0 0 w1 := (S0.below k1).below (hb.mono (by simp))
  have HS1 : Hid (Sv w.heap.size 0 0 w1 ∧ Below w.heap.size w w1) := ⟨S1, k2⟩
  clear HB hb k1 k2 k0 hW0 z0 S1 S0
  go_wp2_with fail
  obtain ⟨W2, hW2⟩ : ∃ W2, W2 = w1.alloc (.cells #[.int .i64 0, .int .i64 0] 23) := ⟨_, rfl⟩
  rw [← hW2]
  have HS2 : Hid (Sv w.heap.size 0 0 W2 ∧ Below w.heap.size w W2) := by
    show _ ∧ _
    rw [hW2]
    exact ⟨HS1.out.1.alloc _ _, Below.alloc HS1.out.2 HS1.out.2.size _⟩
  clear hW2
  refine (HCn.out W2).mono ?_
  rintro e w3 ⟨v, rfl, hv, k3⟩
  have HS3 : Hid (Sv w.heap.size 0 0 w3 ∧ Below w.heap.size w w3) := ⟨HS2.out.1.below k3, HS2.out.2.trans (k3.mono HS2.out.2.size)⟩
  have HLn : Hid (LN w3 v (BN.st n k)) := hv
  clear HS1 HS2 hv k3 HCn
  go_wp2_with fail
  refine (HSt.out _ _ HLn.out HS3.out.2).mono ?_
  rintro e w4 ⟨rfl, k4⟩
  have HK4 : Hid (Below w.heap.size w w4) := HS3.out.2.trans (k4.mono HS3.out.2.size)
  obtain ⟨q0, q1, q2, q3, hz⟩ := HS3.out.1.below k4
  clear k4 HS3 HLn HSt
  go_wp2
  refine bodyPost_ret (v := .tuple #[.string st, .agg #[.int .i64 0, .int .i64 0]]) (by simp [results, Tryz.results33, go_sem, q0, q1, hz]) rfl ⟨rfl, ?_⟩
  exact Below.setCell (Below.setCell HK4.out (Nat.le_refl _) _) (Nat.le_refl _) _
end Go.Proofs.YtnkjadpmigpneaaGreatDoor
end

section
set_option linter.unusedSimpArgs false
set_option linter.unusedVariables false
set_option maxRecDepth 100000
namespace Go.Proofs.YtnkjadpmigpneaaGreatDoor
open Go.RowKit
theorem length_any (s : Value) (a m : Nat) (w : World) (ha : NS w s a) (hm : a < pw m) (hm' : m ≤ 100000000) :
    Calls Tryz.prog 65 #[s] w fun e w' => ∃ L : Nat, e = .returned (.int .i64 (L : Int)) ∧ a < 2 ^ L ∧ L ≤ 3200000000 ∧ w' = w := by
  obtain ⟨l, aa, g, cap, rfl, va, na, sa, pa, cell, _, lt⟩ := ha.open
  subst va
  have l1 : l.length ≤ 100000000 := Nat.le_trans (na.len hm) hm'
  by_cases h0 : l.length = 0
  · obtain rfl : l = [] := List.length_eq_zero_iff.1 h0
    clear ha pa cell lt hm
    go_enter Tryz.func65, Tryz.ntmps65
    go_wp2
    go_ret
    exact ⟨0, rfl, by simp [val], by omega, rfl⟩
  · refine (length_core l aa g cap w (by omega) l1 sa (pa (by omega)) (cell _ (by omega))).mono ?_
    rintro e w' ⟨t, rfl, hb, ht, rfl⟩
    refine ⟨_, rfl, ?_, by omega, rfl⟩
    have h1 := val_split l (l.length - 1) (by omega)
    have h2 := take_lt l (l.length - 1) (by omega) sa
    have h3 : val (l.drop (l.length - 1 + 1)) = 0 := by rw [List.drop_eq_nil_of_le (by omega)]; rfl
    rw [h3, Nat.mul_zero, Nat.add_zero] at h1
    have h4 := hb.lt
    rw [h1, Nat.pow_add, Nat.mul_comm (l.length - 1), ← pw_two_pow]
    have h5 : pw (l.length - 1) * (l.getD (l.length - 1) 0 + 1) ≤ pw (l.length - 1) * 2 ^ t := Nat.mul_le_mul_left _ h4
    rw [Nat.mul_add, Nat.mul_one] at h5
    omega
theorem bit_word (l : List Nat) (i : Nat) (h : ∀ x ∈ l, x < 4294967296) (hi : i / 32 < l.length) : l.getD (i / 32) 0 / 2 ^ (i % 32) % 2 = val l / 2 ^ i % 2 := by
  rw [val_drop_shift l h i (i / 32) (i % 32) (by omega) (by omega), drop_step l (i / 32) hi]
  generalize l.getD (i / 32) 0 = x
  generalize val (l.drop (i / 32 + 1)) = V
  have hr : i % 32 < 32 := Nat.mod_lt _ (by omega)
  obtain ⟨r, gr⟩ : ∃ r, r = i % 32 := ⟨_, rfl⟩
  rw [← gr] at hr ⊢
  have e : 4294967296 * V = 2 ^ r * (2 * (2 ^ (31 - r) * V)) := by
    have : 2 ^ r * 2 * 2 ^ (31 - r) = 4294967296 := by
      rw [← Nat.pow_succ, ← Nat.pow_add, show r + 1 + (31 - r) = 32 by omega]
    rw [← Nat.mul_assoc, ← Nat.mul_assoc, this]
  rw [e, Nat.add_mul_div_left _ _ (Nat.two_pow_pos r)]
  omega
theorem low_bit (x r : Nat) (hx : x < 4294967296) : bits .and .u64 (IntKind.u64.wrap ((x : Int) / 2 ^ r)) 1 = ((x / 2 ^ r % 2 : Nat) : Int) := by
  have e : (x : Int) / 2 ^ r = ((x / 2 ^ r : Nat) : Int) := by simp
  have h : x / 2 ^ r ≤ x := Nat.div_le_self ..
  rw [e]
  generalize x / 2 ^ r = y at *
  have hw : IntKind.u64.wrap (y : Int) = (y : Int) := wrapN y (by omega)
  rw [hw]
  have := bits_and_u64_nat y 1 (by omega) (by omega)
  rw [Nat.and_one_is_mod] at this
  exact this
theorem bit_none (A i : Nat) (h : A < 2 ^ i) : A / 2 ^ i % 2 = 0 := by rw [Nat.div_eq_of_lt h]
set_option maxHeartbeats 1000000 in
theorem bit_any (s : Value) (A i m : Nat) (w : World) (hs : NS w s A) (hm : A < pw m) (hm' : m ≤ 100000000) (hi : i ≤ 4000000000) :
    Calls Tryz.prog 66 #[s, .int .i64 i] w fun e w' => e = .returned (.int .u64 ((A / 2 ^ i % 2 : Nat) : Int)) ∧ ∃ q, w' = w.drewN q := by
  obtain ⟨l, aa, g, cap, rfl, va, na, sa, pa, cell, _, lt⟩ := hs.open
  subst va
  have l1 : l.length ≤ 100000000 := Nat.le_trans (na.len hm) hm'
  by_cases h0 : i / 32 < l.length
  · obtain rfl := pa (by omega)
    have c0 := cell _ h0
    have s0 := List.getD_lt_of sa (i / 32)
    have hb := bit_word l i sa h0
    have hr : i % 32 < 32 := Nat.mod_lt _ (by omega)
    rw [← hb]
    obtain ⟨k, gk⟩ : ∃ k, k = i / 32 := ⟨_, rfl⟩
    obtain ⟨r, gr⟩ : ∃ r, r = i % 32 := ⟨_, rfl⟩
    rw [← gk] at c0 s0 h0 ⊢
    rw [← gr] at hr ⊢
    obtain ⟨x, gx⟩ : ∃ x, x = l.getD k 0 := ⟨_, rfl⟩
    rw [← gx] at c0 s0 ⊢
    have ek : (i : Int) / 32 = (k : Int) := by omega
    have er : (i : Int) % 32 = (r : Int) := by omega
    clear hs hm lt cell pa sa na hb gk gr gx
    go_enter Tryz.func66, Tryz.ntmps66
    go_wp2
    go_ret
    exact ⟨ret_int (low_bit x r s0), 0, rfl⟩
  · have hz : val l / 2 ^ i % 2 = 0 := by
      refine bit_none _ _ ?_
      have h1 := val_lt l sa
      rw [pw_two_pow] at h1
      exact Nat.lt_of_lt_of_le h1 (Nat.pow_le_pow_right (by omega) (by omega))
    rw [hz]
    clear hs hm lt cell pa sa na hz
    go_enter Tryz.func66, Tryz.ntmps66
    go_wp2
    go_ret
    exact ⟨rfl, 0, rfl⟩
end Go.Proofs.YtnkjadpmigpneaaGreatDoor
end

section
set_option linter.unusedSimpArgs false
set_option linter.unusedVariables false
set_option maxRecDepth 100000
namespace Go.Proofs.YtnkjadpmigpneaaGreatDoor
open Go.RowKit
theorem half_bit (Y i : Nat) : Y / 2 ^ i = 2 * (Y / 2 ^ (i + 1)) + Y / 2 ^ i % 2 := by
  rw [Nat.pow_succ, ← Nat.div_div_eq_div_mul]; omega
theorem ipow_add (x : Int) (m n : Nat) : x ^ (m + n) = x ^ m * x ^ n := by
  induction n with
  | zero => simp
  | succ k ih => rw [← Nat.add_assoc, Int.pow_succ, ih, Int.pow_succ, Int.mul_assoc]
theorem mulN_lt {x y : Int} {m n : Nat} (hx : x.natAbs < pw m) (hy : y.natAbs < pw n) : (x * y).natAbs < pw (m + n) := by
  rw [Int.natAbs_mul, pw_add]; exact Nat.mul_lt_mul'' hx hy
theorem ipow_lt {x : Int} {mx : Nat} (h : x.natAbs < pw mx) (k Y : Nat) (hk : k ≤ Y) : (x ^ k).natAbs < pw (mx * Y + 1) := by
  have h1 : ∀ k, (x ^ k).natAbs ≤ pw (mx * k) := by
    intro k
    induction k with
    | zero => simp [pw]
    | succ n ih =>
      rw [Int.pow_succ, Int.natAbs_mul, Nat.mul_succ, pw_add]
      exact Nat.mul_le_mul ih (Nat.le_of_lt h)
  have h2 := h1 k
  have h3 := pw_le (Nat.mul_le_mul_left mx hk)
  have h4 : pw (mx * Y + 1) = 4294967296 * pw (mx * Y) := rfl
  have h5 := pw_pos (mx * Y)
  omega
theorem exp_sq0 (x : Int) (k : Nat) : x ^ k * x ^ k = x ^ (2 * k) := by rw [← ipow_add, Nat.two_mul]
set_option maxHeartbeats 2000000 in
theorem Exp_nil (bz bx by' : Nat) (x : Int) (Y mx my : Nat) (w : World) (hz : Slot w bz) (hx : BigAt w bx x) (hy : BigAt w by' (Y : Int)) (lx : x.natAbs < pw mx) (ly : Y < pw my) (lx' : mx * Y + 1 ≤ 40000000) (lm : mx ≤ 40000000) (ly' : my ≤ 40000000) :
    Calls Tryz.prog 31 #[.pointer (some ⟨bz, 0, none⟩), .pointer (some ⟨bx, 0, none⟩), .pointer (some ⟨by', 0, none⟩), .pointer none] w fun e w' => e = .returned (.pointer (some ⟨bz, 0, none⟩)) ∧ BigAt w' bz (x ^ Y) ∧ Upd bz w w' := by
  obtain ⟨ya, yl, yc, cy0, cy1, ny, _⟩ := hy.open
  have zlt := hz.lt
  have ylt := hy.lt
  have HZ : Hid (Slot w bz) := hz
  have HX : Hid (BigAt w bx x) := hx
  have HNY : Hid (NS w (.slice ya yl yc) Y) := by have h := ny; show NS _ _ _; simpa using h
  have LX : Hid (x.natAbs < pw mx) := lx
  have LY : Hid (Y < pw my) := ly
  have LP : Hid (∀ k, k ≤ Y → (x ^ k).natAbs < pw (mx * Y + 1)) := fun k hk => ipow_lt lx k Y hk
  obtain ⟨B, gB⟩ : ∃ B, B = mx * Y + 1 := ⟨_, rfl⟩
  rw [← gB] at LP lx'
  rw [decide_eq_false (show ¬ (Y : Int) < 0 by omega)] at cy0
  clear hz hx hy ny lx ly gB
  go_enter Tryz.func31, Tryz.ntmps31
  go_wp2_with fail
  refine (Set_any w.heap.size bx x mx _ (slot_new w _ _) (HX.out.below (Below.alloc_self' w _) (Nat.le_refl _)) LX.out (by omega)).mono ?_
  rintro e w1 ⟨rfl, h1, u1⟩
  have k1 : Below w.heap.size w w1 := (Below.alloc_self' w _).trans (u1.below (by simp) (Nat.le_refl _))
  have z1 : w.heap.size < w1.heap.size := h1.lt
  have dy0 : w1.cell? ⟨by', 0, none⟩ = some (.bool false) := (k1.cell (p := ⟨by', 0, none⟩) ylt).trans cy0
  have dy1 : w1.cell? ⟨by', 1, none⟩ = some (.slice ya yl yc) := (k1.cell (p := ⟨by', 1, none⟩) ylt).trans cy1
  have HB1 : Hid (BigAt w1 w.heap.size x) := h1
  have HK1 : Hid (Below w.heap.size w w1) := k1
  clear h1 u1 k1 cy0 cy1
  go_wp2_with fail
  refine (NewInt_any 1 _ (by omega) (by omega)).mono ?_
  rintro e w2 ⟨br, rfl, p2, h2, k2⟩
  have z2 := k2.size
  have lbr : br < w2.heap.size := h2.lt
  have ey1 : w2.cell? ⟨by', 1, none⟩ = some (.slice ya yl yc) := (k2.cell (p := ⟨by', 1, none⟩) (show by' < w1.heap.size by omega)).trans dy1
  have HR2 : Hid (BigAt w2 br 1) := h2
  have HB2 : Hid (BigAt w2 w.heap.size x) := HB1.out.below k2 (Nat.le_refl _)
  have HK2 : Hid (Below w.heap.size w w2) := HK1.out.trans (k2.mono (by omega))
  have HN2 : Hid (NS w2 (.slice ya yl yc) Y) := HNY.out.below HK2.out (Nat.le_refl _)
  clear h2 k2 HB1 HK1 dy0 dy1
  go_wp2_with fail
  refine (twin_any _ Y my _ HN2.out LY.out (by omega)).mono ?_
  rintro e w3 ⟨ev, rfl, h3, k3⟩
  obtain ⟨ea, el, ec, rfl, _⟩ := h3.shape
  have z3 := k3.size
  have HE5 : Hid (NS w3 (.slice ea el ec) Y) := h3
  have HR5 : Hid (BigAt w3 br 1) := HR2.out.below k3 (Nat.le_refl _)
  have HB5 : Hid (BigAt w3 w.heap.size x) := HB2.out.below k3 (Nat.le_refl _)
  have HK5 : Hid (Below w.heap.size w w3) := HK2.out.trans (k3.mono (by omega))
  clear h3 k3 HR2 HB2 HK2 HN2 ey1
  go_wp2_with fail
  refine (length_any _ Y my _ HE5.out LY.out (by omega)).mono ?_
  rintro e w6 ⟨L, rfl, hL, hLb, rfl⟩
  have HL : Hid (Y < 2 ^ L) := hL
  clear hL
  go_wp2_with fail
  go_loopw [14] (fun iv wx => ∃ k : Nat, k ≤ L ∧ iv = .int .i64 ((k : Int) - 1) ∧ Hid (BigAt wx br (x ^ (Y / 2 ^ k)) ∧ BigAt wx w.heap.size x ∧ NS wx (.slice ea el ec) Y ∧ Below w.heap.size w wx ∧ w6.heap.size ≤ wx.heap.size)) (fun iv _ => (intOf iv + 1).toNat)
  case atStart =>
    refine ⟨L, Nat.le_refl _, by go_num, ?_, HB5.out, HE5.out, HK5.out, Nat.le_refl _⟩
    rw [Nat.div_eq_of_lt HL.out, Int.pow_zero]
    exact HR5.out
  case round =>
    clear HR5 HE5 HB5 HK5
    obtain ⟨k, hk, hiv, HR0⟩ := hrel
    have HR : Hid (BigAt wr br (x ^ (Y / 2 ^ k))) := HR0.out.1
    have HB : Hid (BigAt wr w.heap.size x) := HR0.out.2.1
    have HE : Hid (NS wr (.slice ea el ec) Y) := HR0.out.2.2.1
    have HK : Hid (Below w.heap.size w wr) := HR0.out.2.2.2.1
    have zr : w6.heap.size ≤ wr.heap.size := HR0.out.2.2.2.2
    clear HR0
    by_cases h0 : k = 0
    · subst h0
      subst hiv
      have HR' : Hid (BigAt wr br (x ^ Y)) := by have h := HR.out; rw [Nat.pow_zero, Nat.div_one] at h; exact h
      clear HR
      go_wp2_with fail
      refine (Set_any bz br (x ^ Y) B _ (HZ.out.below HK.out (Nat.le_refl _)) HR'.out (LP.out Y (Nat.le_refl _)) (by omega)).mono ?_
      rintro e w7 ⟨rfl, h7, u7⟩
      go_wp2
      go_ret
      exact ⟨rfl, h7, Upd.then_below HK.out u7⟩
    · obtain ⟨j, rfl⟩ : ∃ j, k = j + 1 := ⟨k - 1, by omega⟩
      have hiv2 := hiv.trans (show Value.int .i64 (((j + 1 : Nat) : Int) - 1) = Value.int .i64 (j : Int) from by congr 1; omega)
      subst hiv2
      clear hiv
      have hle1 : Y / 2 ^ j ≤ Y := Nat.div_le_self ..
      have hhb := half_bit Y j
      have LR : Hid ((x ^ (Y / 2 ^ (j + 1))).natAbs < pw B) := LP.out _ (Nat.div_le_self ..)
      have LT : Hid ((x ^ (2 * (Y / 2 ^ (j + 1)))).natAbs < pw B) := LP.out _ (by omega)
      have HSQ : Hid (x ^ (Y / 2 ^ (j + 1)) * x ^ (Y / 2 ^ (j + 1)) = x ^ (2 * (Y / 2 ^ (j + 1)))) := exp_sq0 x _
      have HON : Hid (x ^ (2 * (Y / 2 ^ (j + 1))) * x = x ^ (2 * (Y / 2 ^ (j + 1)) + 1)) := (Int.pow_succ ..).symm
      have HHB : Hid (Y / 2 ^ j = 2 * (Y / 2 ^ (j + 1)) + Y / 2 ^ j % 2) := hhb
      clear hhb hle1
      go_wp2_with fail
      refine (Mul_any br br br _ _ B B _ HR.out.slot HR.out HR.out LR.out LR.out (by omega) (by omega)).mono ?_
      rw [HSQ.out]
      rintro e w8 ⟨rfl, h8, u8⟩
      have z8 := u8.size
      have HR8 : Hid (BigAt w8 br (x ^ (2 * (Y / 2 ^ (j + 1))))) := h8
      have HB8 : Hid (BigAt w8 w.heap.size x) := HB.out.upd u8 HR.out.slot (by omega)
      have HE8 : Hid (NS w8 (.slice ea el ec) Y) := HE.out.upd u8 HR.out.slot
      have HK8 : Hid (Below w.heap.size w w8) := HK.out.trans (u8.below (by omega) (by omega))
      clear h8 u8 HB HE HK HR
      go_wp2_with fail
      refine (bit_any _ Y j my _ HE8.out LY.out (by omega) (by omega)).mono ?_
      rcases Nat.mod_two_eq_zero_or_one (Y / 2 ^ j) with hb | hb
      · have HR9 : Hid (BigAt w8 br (x ^ (Y / 2 ^ j))) := by
          have h := HR8.out
          have h2 := HHB.out
          rw [hb] at h2
          rw [show 2 * (Y / 2 ^ (j + 1)) = Y / 2 ^ j by omega] at h
          exact h
        rw [hb]
        clear hb HR8
        rintro e w9 ⟨rfl, q9, rfl⟩
        go_wp2
        go_roundw
        case rel => exact ⟨j, by omega, rfl, HR9.out.drewN, HB8.out.drewN, HE8.out.drewN, below_drewN' HK8.out, (show w6.heap.size ≤ w8.heap.size by omega)⟩
        case measure => simp [intOf]
      · have HO : Hid (x ^ (2 * (Y / 2 ^ (j + 1))) * x = x ^ (Y / 2 ^ j)) := by
          have h2 := HHB.out
          rw [hb] at h2
          show _ = _
          rw [HON.out, ← h2]
        rw [hb]
        clear hb
        rintro e w9 ⟨rfl, q9, hw9⟩
        have z9 : w8.heap.size ≤ w9.heap.size := by rw [hw9]; exact Nat.le_refl _
        have HR9 : Hid (BigAt w9 br (x ^ (2 * (Y / 2 ^ (j + 1))))) := by rw [hw9]; exact HR8.out.drewN
        have HB9 : Hid (BigAt w9 w.heap.size x) := by rw [hw9]; exact HB8.out.drewN
        have HE9 : Hid (NS w9 (.slice ea el ec) Y) := by rw [hw9]; exact HE8.out.drewN
        have HK9 : Hid (Below w.heap.size w w9) := by rw [hw9]; exact below_drewN' HK8.out
        clear hw9 HR8 HB8 HE8 HK8
        go_wp2_with fail
        refine (Mul_any br br w.heap.size _ x B mx _ HR9.out.slot HR9.out HB9.out LT.out LX.out (by omega) (by omega)).mono ?_
        rw [HO.out]
        rintro e w10 ⟨rfl, h10, u10⟩
        have z10 := u10.size
        have HR10 : Hid (BigAt w10 br (x ^ (Y / 2 ^ j))) := h10
        have HB10 : Hid (BigAt w10 w.heap.size x) := HB9.out.upd u10 HR9.out.slot (by omega)
        have HE10 : Hid (NS w10 (.slice ea el ec) Y) := HE9.out.upd u10 HR9.out.slot
        have HK10 : Hid (Below w.heap.size w w10) := HK9.out.trans (u10.below (by omega) (by omega))
        clear h10 u10 HB9 HE9 HK9 HR9
        go_wp2
        go_roundw
        case rel => exact ⟨j, by omega, rfl, HR10.out, HB10.out, HE10.out, HK10.out, by omega⟩
        case measure => simp [intOf]
end Go.Proofs.YtnkjadpmigpneaaGreatDoor
end

section
set_option linter.unusedSimpArgs false
set_option linter.unusedVariables false
set_option maxRecDepth 100000
namespace Go.Proofs.YtnkjadpmigpneaaGreatDoor
open Go.RowKit
end Go.Proofs.YtnkjadpmigpneaaGreatDoor
end

section
set_option linter.unusedSimpArgs false
set_option linter.unusedVariables false
set_option maxRecDepth 100000
namespace Go.Proofs.YtnkjadpmigpneaaGreatDoor
open Go.RowKit
theorem lt_pw2 {x : Int} (h1 : -9223372036854775808 ≤ x) (h2 : x ≤ 9223372036854775807) : x.natAbs < pw 2 := by rw [pw_two]; omega
theorem Below.alloc_self (w : World) (o : Obj) : Below w.heap.size w (w.alloc o) := Below.alloc (Below.refl _ _) (Nat.le_refl _) _
end Go.Proofs.YtnkjadpmigpneaaGreatDoor
end

section
set_option linter.unusedSimpArgs false
set_option linter.unusedVariables false
set_option maxRecDepth 100000
namespace Go.Proofs.YtnkjadpmigpneaaGreatDoor
open Go.RowKit
theorem ch_pw {n k : Nat} (hn : n ≤ 201) : BN.ch n k < pw 7 := Nat.lt_of_le_of_lt (BN.ch_le n k) (Nat.lt_of_le_of_lt (Nat.pow_le_pow_right (by decide) hn) (by decide +kernel))
theorem ch_quo {n i : Nat} (h : i < n + 1) : (((BN.ch n i : Nat) : Int) * ((n : Int) - i)).tdiv ((i : Int) + 1) = ((BN.ch n (i + 1) : Nat) : Int) := by
  have h1 := BN.ch_step n i (by omega)
  have h2 : ((BN.ch n i : Nat) : Int) * ((n : Int) - i) = ((BN.ch n (i + 1) * (i + 1) : Nat) : Int) := by
    rw [← h1, Int.natCast_mul, show ((n - i : Nat) : Int) = (n : Int) - i by omega]
  rw [h2, Int.natCast_mul]
  exact Int.mul_tdiv_cancel _ (by omega)
set_option maxHeartbeats 2000000 in
theorem Choose_any (n k : Nat) (w : World) (hk : k ≤ n) (hn : n ≤ 201) :
    Calls Tryz.prog 42 #[.int .i64 (n : Int), .int .i64 (k : Int)] w fun e w' => ∃ b, e = .returned (.pointer (some ⟨b, 0, none⟩)) ∧ Made w w' b ((BN.ch n k : Nat) : Int) := by
  go_enter Tryz.func42, Tryz.ntmps42
  go_wp2_with fail
  refine (B_any 1 w (by omega) (by omega)).mono ?_
  rintro e w1 ⟨b, rfl, m1⟩
  have HB : Hid (w.heap.size ≤ b ∧ BigAt w1 b ((BN.ch n 0 : Nat) : Int) ∧ Below w.heap.size w w1) := ⟨m1.1, by rw [BN.ch_zero]; exact m1.2.1, m1.2.2⟩
  clear m1
  go_wp2
  go_loopg [6] k (fun gk iv wx => ∃ i : Nat, iv = .int .i64 (i : Int) ∧ Hid (gk = k - i ∧ i ≤ k ∧ BigAt wx b ((BN.ch n i : Nat) : Int) ∧ Below w.heap.size w wx))
  case atStart => exact ⟨0, rfl, rfl, by omega, HB.out.2.1, HB.out.2.2⟩
  case round =>
    obtain ⟨i, rfl, HR⟩ := hrel
    obtain ⟨h1, h2, h3, h4⟩ := HR.out
    have HK : Hid (gk = k - i) := h1
    have HX : Hid (w.heap.size ≤ b ∧ BigAt wr b ((BN.ch n i : Nat) : Int) ∧ Below w.heap.size w wr) := ⟨HB.out.1, h3, h4⟩
    clear HR h1 h3 h4
    by_cases hi : i < k
    · have ti : decide ((i : Int) < (k : Int)) = true := decide_eq_true (by omega)
      have e1 : IntKind.i64.wrap ((n : Int) - (i : Int)) = (n : Int) - (i : Int) := by rw [IntKind.wrap_i64]; omega
      go_wp2_with fail
      refine (B_any ((n : Int) - (i : Int)) wr (by omega) (by omega)).mono ?_
      rintro e w2 ⟨b2, rfl, m2⟩
      have HX2 : Hid (BigAt w2 b ((BN.ch n i : Nat) : Int) ∧ BigAt w2 b2 ((n : Int) - (i : Int)) ∧ Below w.heap.size w w2) := ⟨HX.out.2.1.below m2.2.2 (Nat.le_refl _), m2.2.1, HX.out.2.2.trans (m2.2.2.mono HX.out.2.2.size)⟩
      clear m2
      go_wp2_with fail
      refine (Mul_any b b b2 _ _ 7 2 w2 HX2.out.1.slot HX2.out.1 HX2.out.2.1 (by have := @ch_pw n i hn; omega) (lt_pw2 (by omega) (by omega)) (by omega) (by omega)).mono ?_
      rintro e w3 ⟨rfl, m3, u3⟩
      have HX3 : Hid (BigAt w3 b (((BN.ch n i : Nat) : Int) * ((n : Int) - (i : Int))) ∧ Below w.heap.size w w3) := ⟨m3, HX2.out.2.2.trans (u3.below HX2.out.2.2.size HX.out.1)⟩
      clear m3 u3 HX2
      go_wp2_with fail
      refine (B_any ((i : Int) + 1) w3 (by omega) (by omega)).mono ?_
      rintro e w4 ⟨b4, rfl, m4⟩
      have HX4 : Hid (BigAt w4 b (((BN.ch n i : Nat) : Int) * ((n : Int) - (i : Int))) ∧ BigAt w4 b4 ((i : Int) + 1) ∧ Below w.heap.size w w4) := ⟨HX3.out.1.below m4.2.2 (Nat.le_refl _), m4.2.1, HX3.out.2.trans (m4.2.2.mono HX3.out.2.size)⟩
      clear m4 HX3
      go_wp2_with fail
      refine (Quo_any b b b4 _ _ 9 2 w4 HX4.out.1.slot HX4.out.1 HX4.out.2.1 (by omega) (mulN_lt (show (((BN.ch n i : Nat) : Int)).natAbs < pw 7 by have := @ch_pw n i hn; omega) (lt_pw2 (by omega) (by omega))) (lt_pw2 (by omega) (by omega)) (by omega) (by omega)).mono ?_
      rintro e w5 ⟨rfl, m5, u5⟩
      have HX5 : Hid (BigAt w5 b ((BN.ch n (i + 1) : Nat) : Int) ∧ Below w.heap.size w w5) := ⟨by rw [← ch_quo (by omega)]; exact m5, HX4.out.2.2.trans (u5.below HX4.out.2.2.size HX.out.1)⟩
      clear m5 u5 HX4 HX
      go_wp2
      go_roundg (k - (i + 1))
      case rel => exact ⟨i + 1, by go_num, rfl, by omega, HX5.out.1, HX5.out.2⟩
      case measure => have := HK.out; omega
    · have ti : decide ((i : Int) < (k : Int)) = false := decide_eq_false (by omega)
      obtain rfl : i = k := by omega
      go_wp2
      go_ret
      exact ⟨b, rfl, HX.out.1, HX.out.2.1, HX.out.2.2⟩
end Go.Proofs.YtnkjadpmigpneaaGreatDoor
end
