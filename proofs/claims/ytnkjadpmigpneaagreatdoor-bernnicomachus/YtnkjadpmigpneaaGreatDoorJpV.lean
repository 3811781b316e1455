import Derived.Test.YtnkjadpmigpneaaGreatDoorJpS
import Derived.Test.YtnkjadpmigpneaaGreatDoorJpT
import Derived.Test.YtnkjadpmigpneaaGreatDoorJpN
section
set_option linter.unusedSimpArgs false
set_option linter.unusedVariables false
set_option maxRecDepth 100000
namespace Go.Proofs.YtnkjadpmigpneaaGreatDoor
open Go.RowKit LgM
structure Nr (b N : Nat) (f : Nat → Nat) (w : World) : Prop where
  ex : ∃ cells : List Value, Cl b cells 64 w ∧ cells.length = N ∧ (∀ u ∈ cells, NI u) ∧ ∀ j, j < N → ∃ sa sk sc, cells[j]? = some (.slice sa sk sc) ∧ LN w (.slice sa sk sc) (f j)
def wy (a i j : Nat) : Nat := if j ≤ i then BN.st (a + 1 + j) (a + 1) else BN.st (a + j) a
end Go.Proofs.YtnkjadpmigpneaaGreatDoor
end

section
set_option linter.unusedSimpArgs false
set_option linter.unusedVariables false
set_option maxRecDepth 100000
namespace Go.Proofs.YtnkjadpmigpneaaGreatDoor
open Go.RowKit LgM
end Go.Proofs.YtnkjadpmigpneaaGreatDoor
end

section
set_option linter.unusedSimpArgs false
set_option linter.unusedVariables false
set_option maxRecDepth 100000
namespace Go.Proofs.YtnkjadpmigpneaaGreatDoor
open Go.RowKit
theorem length_any (s : Value) (a m : Nat) (w : World) (ha : NS w s a) (hm : a < pw m) (hm' : m ≤ 100000000) :
    Calls Tryz.prog 65 #[s] w fun e w' => ∃ L : Nat, e = .returned (.int .i64 (L : Int)) ∧ a < 2 ^ L ∧ L ≤ 3200000000 ∧ w' = w := by
  obtain ⟨l, aa, g, cap, rfl, va, na, sa, pa, cell, _, lt⟩ := ha.open
  subst va
  have l1 : l.length ≤ 100000000 := Nat.le_trans (na.len hm) hm'
  by_cases h0 : l.length = 0
  · obtain rfl : l = [] := List.length_eq_zero_iff.1 h0
    clear ha pa cell lt hm
    go_enter Tryz.func65, Tryz.ntmps65
    go_wp2
    go_ret
    exact ⟨0, rfl, by simp [val], by omega, rfl⟩
  · refine (length_core l aa g cap w (by omega) l1 sa (pa (by omega)) (cell _ (by omega))).mono ?_
    rintro e w' ⟨t, rfl, hb, ht, rfl⟩
    refine ⟨_, rfl, ?_, by omega, rfl⟩
    have h1 := val_split l (l.length - 1) (by omega)
    have h2 := take_lt l (l.length - 1) (by omega) sa
    have h3 : val (l.drop (l.length - 1 + 1)) = 0 := by rw [List.drop_eq_nil_of_le (by omega)]; rfl
    rw [h3, Nat.mul_zero, Nat.add_zero] at h1
    have h4 := hb.lt
    rw [h1, Nat.pow_add, Nat.mul_comm (l.length - 1), ← pw_two_pow]
    have h5 : pw (l.length - 1) * (l.getD (l.length - 1) 0 + 1) ≤ pw (l.length - 1) * 2 ^ t := Nat.mul_le_mul_left _ h4
    rw [Nat.mul_add, Nat.mul_one] at h5
    omega
theorem bit_word (l : List Nat) (i : Nat) (h : ∀ x ∈ l, x < 4294967296) (hi : i / 32 < l.length) : l.getD (i / 32) 0 / 2 ^ (i % 32) % 2 = val l / 2 ^ i % 2 := by
  rw [val_drop_shift l h i (i / 32) (i % 32) (by omega) (by omega), drop_step l (i / 32) hi]
  generalize l.getD (i / 32) 0 = x
  generalize val (l.drop (i / 32 + 1)) = V
  have hr : i % 32 < 32 := Nat.mod_lt _ (by omega)
  obtain ⟨r, gr⟩ : ∃ r, r = i % 32 := ⟨_, rfl⟩
  rw [← gr] at hr ⊢
  have e : 4294967296 * V = 2 ^ r * (2 * (2 ^ (31 - r) * V)) := by
    have : 2 ^ r * 2 * 2 ^ (31 - r) = 4294967296 := by
      rw [← Nat.pow_succ, ← Nat.pow_add, show r + 1 + (31 - r) = 32 by omega]
    rw [← Nat.mul_assoc, ← Nat.mul_assoc, this]
  rw [e, Nat.add_mul_div_left _ _ (Nat.two_pow_pos r)]
  omega
theorem low_bit (x r : Nat) (hx : x < 4294967296) : bits .and .u64 (IntKind.u64.wrap ((x : Int) / 2 ^ r)) 1 = ((x / 2 ^ r % 2 : Nat) : Int) := by
  have e : (x : Int) / 2 ^ r = ((x / 2 ^ r : Nat) : Int) := by simp
  have h : x / 2 ^ r ≤ x := Nat.div_le_self ..
  rw [e]
  generalize x / 2 ^ r = y at *
  have hw : IntKind.u64.wrap (y : Int) = (y : Int) := wrapN y (by omega)
  rw [hw]
  have := bits_and_u64_nat y 1 (by omega) (by omega)
  rw [Nat.and_one_is_mod] at this
  exact this
theorem bit_none (A i : Nat) (h : A < 2 ^ i) : A / 2 ^ i % 2 = 0 := by rw [Nat.div_eq_of_lt h]
set_option maxHeartbeats 1000000 in
theorem bit_any (s : Value) (A i m : Nat) (w : World) (hs : NS w s A) (hm : A < pw m) (hm' : m ≤ 100000000) (hi : i ≤ 4000000000) :
    Calls Tryz.prog 66 #[s, .int .i64 i] w fun e w' => e = .returned (.int .u64 ((A / 2 ^ i % 2 : Nat) : Int)) ∧ ∃ q, w' = w.drewN q := by
  obtain ⟨l, aa, g, cap, rfl, va, na, sa, pa, cell, _, lt⟩ := hs.open
  subst va
  have l1 : l.length ≤ 100000000 := Nat.le_trans (na.len hm) hm'
  by_cases h0 : i / 32 < l.length
  · obtain rfl := pa (by omega)
    have c0 := cell _ h0
    have s0 := List.getD_lt_of sa (i / 32)
    have hb := bit_word l i sa h0
    have hr : i % 32 < 32 := Nat.mod_lt _ (by omega)
    rw [← hb]
    obtain ⟨k, gk⟩ : ∃ k, k = i / 32 := ⟨_, rfl⟩
    obtain ⟨r, gr⟩ : ∃ r, r = i % 32 := ⟨_, rfl⟩
    rw [← gk] at c0 s0 h0 ⊢
    rw [← gr] at hr ⊢
    obtain ⟨x, gx⟩ : ∃ x, x = l.getD k 0 := ⟨_, rfl⟩
    rw [← gx] at c0 s0 ⊢
    have ek : (i : Int) / 32 = (k : Int) := by omega
    have er : (i : Int) % 32 = (r : Int) := by omega
    clear hs hm lt cell pa sa na hb gk gr gx
    go_enter Tryz.func66, Tryz.ntmps66
    go_wp2
    go_ret
    exact ⟨ret_int (low_bit x r s0), 0, rfl⟩
  · have hz : val l / 2 ^ i % 2 = 0 := by
      refine bit_none _ _ ?_
      have h1 := val_lt l sa
      rw [pw_two_pow] at h1
      exact Nat.lt_of_lt_of_le h1 (Nat.pow_le_pow_right (by omega) (by omega))
    rw [hz]
    clear hs hm lt cell pa sa na hz
    go_enter Tryz.func66, Tryz.ntmps66
    go_wp2
    go_ret
    exact ⟨rfl, 0, rfl⟩
end Go.Proofs.YtnkjadpmigpneaaGreatDoor
end

section
set_option linter.unusedSimpArgs false
set_option linter.unusedVariables false
set_option maxRecDepth 100000
namespace Go.Proofs.YtnkjadpmigpneaaGreatDoor
open Go.RowKit
theorem half_bit (Y i : Nat) : Y / 2 ^ i = 2 * (Y / 2 ^ (i + 1)) + Y / 2 ^ i % 2 := by
  rw [Nat.pow_succ, ← Nat.div_div_eq_div_mul]; omega
theorem ipow_add (x : Int) (m n : Nat) : x ^ (m + n) = x ^ m * x ^ n := by
  induction n with
  | zero => simp
  | succ k ih => rw [← Nat.add_assoc, Int.pow_succ, ih, Int.pow_succ, Int.mul_assoc]
theorem ipow_lt {x : Int} {mx : Nat} (h : x.natAbs < pw mx) (k Y : Nat) (hk : k ≤ Y) : (x ^ k).natAbs < pw (mx * Y + 1) := by
  have h1 : ∀ k, (x ^ k).natAbs ≤ pw (mx * k) := by
    intro k
    induction k with
    | zero => simp [pw]
    | succ n ih =>
      rw [Int.pow_succ, Int.natAbs_mul, Nat.mul_succ, pw_add]
      exact Nat.mul_le_mul ih (Nat.le_of_lt h)
  have h2 := h1 k
  have h3 := pw_le (Nat.mul_le_mul_left mx hk)
  have h4 : pw (mx * Y + 1) = 4294967296 * pw (mx * Y) := rfl
  have h5 := pw_pos (mx * Y)
  omega
theorem exp_sq0 (x : Int) (k : Nat) : x ^ k * x ^ k = x ^ (2 * k) := by rw [← ipow_add, Nat.two_mul]
set_option maxHeartbeats 2000000 in
theorem Exp_nil (bz bx by' : Nat) (x : Int) (Y mx my : Nat) (w : World) (hz : Slot w bz) (hx : BigAt w bx x) (hy : BigAt w by' (Y : Int)) (lx : x.natAbs < pw mx) (ly : Y < pw my) (lx' : mx * Y + 1 ≤ 40000000) (lm : mx ≤ 40000000) (ly' : my ≤ 40000000) :
    Calls Tryz.prog 31 #[.pointer (some ⟨bz, 0, none⟩), .pointer (some ⟨bx, 0, none⟩), .pointer (some ⟨by', 0, none⟩), .pointer none] w fun e w' => e = .returned (.pointer (some ⟨bz, 0, none⟩)) ∧ BigAt w' bz (x ^ Y) ∧ Upd bz w w' := by
  obtain ⟨ya, yl, yc, cy0, cy1, ny, _⟩ := hy.open
  have zlt := hz.lt
  have ylt := hy.lt
  have HZ : Hid (Slot w bz) := hz
  have HX : Hid (BigAt w bx x) := hx
  have HNY : Hid (NS w (.slice ya yl yc) Y) := by have h := ny; show NS _ _ _; simpa using h
  have LX : Hid (x.natAbs < pw mx) := lx
  have LY : Hid (Y < pw my) := ly
  have LP : Hid (∀ k, k ≤ Y → (x ^ k).natAbs < pw (mx * Y + 1)) := fun k hk => ipow_lt lx k Y hk
  obtain ⟨B, gB⟩ : ∃ B, B = mx * Y + 1 := ⟨_, rfl⟩
  rw [← gB] at LP lx'
  rw [decide_eq_false (show ¬ (Y : Int) < 0 by omega)] at cy0
  clear hz hx hy ny lx ly gB
  go_enter Tryz.func31, Tryz.ntmps31
  go_wp2_with fail
  refine (Set_any w.heap.size bx x mx _ (slot_new w _ _) (HX.out.below (Below.alloc_self' w _) (Nat.le_refl _)) LX.out (by omega)).mono ?_
  rintro e w1 ⟨rfl, h1, u1⟩
  have k1 : Below w.heap.size w w1 := (Below.alloc_self' w _).trans (u1.below (by simp) (Nat.le_refl _))
  have z1 : w.heap.size < w1.heap.size := h1.lt
  have dy0 : w1.cell? ⟨by', 0, none⟩ = some (.bool false) := (k1.cell (p := ⟨by', 0, none⟩) ylt).trans cy0
  have dy1 : w1.cell? ⟨by', 1, none⟩ = some (.slice ya yl yc) := (k1.cell (p := ⟨by', 1, none⟩) ylt).trans cy1
  have HB1 : Hid (BigAt w1 w.heap.size x) := h1
  have HK1 : Hid (Below w.heap.size w w1) := k1
  clear h1 u1 k1 cy0 cy1
  go_wp2_with fail
  refine (NewInt_any 1 _ (by omega) (by omega)).mono ?_
  rintro e w2 ⟨br, rfl, p2, h2, k2⟩
  have z2 := k2.size
  have lbr : br < w2.heap.size := h2.lt
  have ey1 : w2.cell? ⟨by', 1, none⟩ = some (.slice ya yl yc) := (k2.cell (p := ⟨by', 1, none⟩) (show by' < w1.heap.size by omega)).trans dy1
  have HR2 : Hid (BigAt w2 br 1) := h2
  have HB2 : Hid (BigAt w2 w.heap.size x) := HB1.out.below k2 (Nat.le_refl _)
  have HK2 : Hid (Below w.heap.size w w2) := HK1.out.trans (k2.mono (by omega))
  have HN2 : Hid (NS w2 (.slice ya yl yc) Y) := HNY.out.below HK2.out (Nat.le_refl _)
  clear h2 k2 HB1 HK1 dy0 dy1
  go_wp2_with fail
  refine (twin_any _ Y my _ HN2.out LY.out (by omega)).mono ?_
  rintro e w3 ⟨ev, rfl, h3, k3⟩
  obtain ⟨ea, el, ec, rfl, _⟩ := h3.shape
  have z3 := k3.size
  have HE5 : Hid (NS w3 (.slice ea el ec) Y) := h3
  have HR5 : Hid (BigAt w3 br 1) := HR2.out.below k3 (Nat.le_refl _)
  have HB5 : Hid (BigAt w3 w.heap.size x) := HB2.out.below k3 (Nat.le_refl _)
  have HK5 : Hid (Below w.heap.size w w3) := HK2.out.trans (k3.mono (by omega))
  clear h3 k3 HR2 HB2 HK2 HN2 ey1
  go_wp2_with fail
  refine (length_any _ Y my _ HE5.out LY.out (by omega)).mono ?_
  rintro e w6 ⟨L, rfl, hL, hLb, rfl⟩
  have HL : Hid (Y < 2 ^ L) := hL
  clear hL
  go_wp2_with fail
  go_loopw [14] (fun iv wx => ∃ k : Nat, k ≤ L ∧ iv = .int .i64 ((k : Int) - 1) ∧ Hid (BigAt wx br (x ^ (Y / 2 ^ k)) ∧ BigAt wx w.heap.size x ∧ NS wx (.slice ea el ec) Y ∧ Below w.heap.size w wx ∧ w6.heap.size ≤ wx.heap.size)) (fun iv _ => (intOf iv + 1).toNat)
  case atStart =>
    refine ⟨L, Nat.le_refl _, by go_num, ?_, HB5.out, HE5.out, HK5.out, Nat.le_refl _⟩
    rw [Nat.div_eq_of_lt HL.out, Int.pow_zero]
    exact HR5.out
  case round =>
    clear HR5 HE5 HB5 HK5
    obtain ⟨k, hk, hiv, HR0⟩ := hrel
    have HR : Hid (BigAt wr br (x ^ (Y / 2 ^ k))) := HR0.out.1
    have HB : Hid (BigAt wr w.heap.size x) := HR0.out.2.1
    have HE : Hid (NS wr (.slice ea el ec) Y) := HR0.out.2.2.1
    have HK : Hid (Below w.heap.size w wr) := HR0.out.2.2.2.1
    have zr : w6.heap.size ≤ wr.heap.size := HR0.out.2.2.2.2
    clear HR0
    by_cases h0 : k = 0
    · subst h0
      subst hiv
      have HR' : Hid (BigAt wr br (x ^ Y)) := by have h := HR.out; rw [Nat.pow_zero, Nat.div_one] at h; exact h
      clear HR
      go_wp2_with fail
      refine (Set_any bz br (x ^ Y) B _ (HZ.out.below HK.out (Nat.le_refl _)) HR'.out (LP.out Y (Nat.le_refl _)) (by omega)).mono ?_
      rintro e w7 ⟨rfl, h7, u7⟩
      go_wp2
      go_ret
      exact ⟨rfl, h7, Upd.then_below HK.out u7⟩
    · obtain ⟨j, rfl⟩ : ∃ j, k = j + 1 := ⟨k - 1, by omega⟩
      have hiv2 := hiv.trans (show Value.int .i64 (((j + 1 : Nat) : Int) - 1) = Value.int .i64 (j : Int) from by congr 1; omega)
      subst hiv2
      clear hiv
      have hle1 : Y / 2 ^ j ≤ Y := Nat.div_le_self ..
      have hhb := half_bit Y j
      have LR : Hid ((x ^ (Y / 2 ^ (j + 1))).natAbs < pw B) := LP.out _ (Nat.div_le_self ..)
      have LT : Hid ((x ^ (2 * (Y / 2 ^ (j + 1)))).natAbs < pw B) := LP.out _ (by omega)
      have HSQ : Hid (x ^ (Y / 2 ^ (j + 1)) * x ^ (Y / 2 ^ (j + 1)) = x ^ (2 * (Y / 2 ^ (j + 1)))) := exp_sq0 x _
      have HON : Hid (x ^ (2 * (Y / 2 ^ (j + 1))) * x = x ^ (2 * (Y / 2 ^ (j + 1)) + 1)) := (Int.pow_succ ..).symm
      have HHB : Hid (Y / 2 ^ j = 2 * (Y / 2 ^ (j + 1)) + Y / 2 ^ j % 2) := hhb
      clear hhb hle1
      go_wp2_with fail
      refine (Mul_any br br br _ _ B B _ HR.out.slot HR.out HR.out LR.out LR.out (by omega) (by omega)).mono ?_
      rw [HSQ.out]
      rintro e w8 ⟨rfl, h8, u8⟩
      have z8 := u8.size
      have HR8 : Hid (BigAt w8 br (x ^ (2 * (Y / 2 ^ (j + 1))))) := h8
      have HB8 : Hid (BigAt w8 w.heap.size x) := HB.out.upd u8 HR.out.slot (by omega)
      have HE8 : Hid (NS w8 (.slice ea el ec) Y) := HE.out.upd u8 HR.out.slot
      have HK8 : Hid (Below w.heap.size w w8) := HK.out.trans (u8.below (by omega) (by omega))
      clear h8 u8 HB HE HK HR
      go_wp2_with fail
      refine (bit_any _ Y j my _ HE8.out LY.out (by omega) (by omega)).mono ?_
      rcases Nat.mod_two_eq_zero_or_one (Y / 2 ^ j) with hb | hb
      · have HR9 : Hid (BigAt w8 br (x ^ (Y / 2 ^ j))) := by
          have h := HR8.out
          have h2 := HHB.out
          rw [hb] at h2
          rw [show 2 * (Y / 2 ^ (j + 1)) = Y / 2 ^ j by omega] at h
          exact h
        rw [hb]
        clear hb HR8
        rintro e w9 ⟨rfl, q9, rfl⟩
        go_wp2
        go_roundw
        case rel => exact ⟨j, by omega, rfl, HR9.out.drewN, HB8.out.drewN, HE8.out.drewN, below_drewN' HK8.out, (show w6.heap.size ≤ w8.heap.size by omega)⟩
        case measure => simp [intOf]
      · have HO : Hid (x ^ (2 * (Y / 2 ^ (j + 1))) * x = x ^ (Y / 2 ^ j)) := by
          have h2 := HHB.out
          rw [hb] at h2
          show _ = _
          rw [HON.out, ← h2]
        rw [hb]
        clear hb
        rintro e w9 ⟨rfl, q9, hw9⟩
        have z9 : w8.heap.size ≤ w9.heap.size := by rw [hw9]; exact Nat.le_refl _
        have HR9 : Hid (BigAt w9 br (x ^ (2 * (Y / 2 ^ (j + 1))))) := by rw [hw9]; exact HR8.out.drewN
        have HB9 : Hid (BigAt w9 w.heap.size x) := by rw [hw9]; exact HB8.out.drewN
        have HE9 : Hid (NS w9 (.slice ea el ec) Y) := by rw [hw9]; exact HE8.out.drewN
        have HK9 : Hid (Below w.heap.size w w9) := by rw [hw9]; exact below_drewN' HK8.out
        clear hw9 HR8 HB8 HE8 HK8
        go_wp2_with fail
        refine (Mul_any br br w.heap.size _ x B mx _ HR9.out.slot HR9.out HB9.out LT.out LX.out (by omega) (by omega)).mono ?_
        rw [HO.out]
        rintro e w10 ⟨rfl, h10, u10⟩
        have z10 := u10.size
        have HR10 : Hid (BigAt w10 br (x ^ (Y / 2 ^ j))) := h10
        have HB10 : Hid (BigAt w10 w.heap.size x) := HB9.out.upd u10 HR9.out.slot (by omega)
        have HE10 : Hid (NS w10 (.slice ea el ec) Y) := HE9.out.upd u10 HR9.out.slot
        have HK10 : Hid (Below w.heap.size w w10) := HK9.out.trans (u10.below (by omega) (by omega))
        clear h10 u10 HB9 HE9 HK9 HR9
        go_wp2
        go_roundw
        case rel => exact ⟨j, by omega, rfl, HR10.out, HB10.out, HE10.out, HK10.out, by omega⟩
        case measure => simp [intOf]
end Go.Proofs.YtnkjadpmigpneaaGreatDoor
end
