/- The long numbers' SetBit, Sqrt, and the reference's IsSquare, of numbers below 2^40. Written by mkrqg.py. -/
import Derived.Test.YtknnidbdgfimbaaJnN
import Derived.Test.YtknnidbdgfimbaaBigP
set_option linter.unusedSimpArgs false
set_option linter.unusedVariables false
set_option maxRecDepth 100000
namespace Go.Proofs.Ytknnidbdgfimbaa
open Go.RowKit

theorem length_mid (s : Value) (a : Nat) (w : World) (ha : NS w s a) (hm : a < 1099511627776) :
    Calls Try.prog 42 #[s] w fun e w' => ∃ L : Nat, e = .returned (.int .i64 (L : Int)) ∧ a < 2 ^ L ∧ L ≤ 40 ∧ w' = w := by
  obtain ⟨l, aa, g, cap, rfl, va, na, sa, pa, cell, _, lt⟩ := ha.open
  subst va
  have l1 : l.length ≤ 2 := na.len (by rw [pw_two]; omega)
  by_cases h0 : l.length = 0
  · obtain rfl : l = [] := List.length_eq_zero_iff.1 h0
    clear ha pa cell lt hm
    go_enter Try.func42, Try.ntmps42
    go_wp2
    go_ret
    exact ⟨0, rfl, by simp [val], by omega, rfl⟩
  · refine (length_core l aa g cap w (by omega) (by omega) sa (pa (by omega)) (cell _ (by omega))).mono ?_
    rintro e w' ⟨t, rfl, hb, ht, rfl⟩
    match l, l1, h0, sa, hm, hb, na with
    | [x], _, _, sa, hm, hb, _ =>
      refine ⟨_, rfl, ?_, by simp; omega, rfl⟩
      have := hb.lt
      simpa [val] using this
    | [x, y], _, _, sa, hm, hb, na =>
      have hy0 : y ≠ 0 := by
        rcases na with h | h
        · cases h
        · simp [val, pw] at h
          have := sa x (by simp)
          omega
      have h1 := hb.lt
      have h2 := hb.ge hy0
      have hx := sa x (by simp)
      simp [val] at hm h1 h2 ⊢
      have hy : y < 256 := by omega
      have ht8 : t ≤ 8 := by
        rcases Nat.lt_or_ge 8 t with c | c
        · exfalso
          have := Nat.pow_le_pow_right (show 0 < 2 by omega) (show 8 ≤ t - 1 by omega)
          omega
        · exact c
      refine ⟨32 + t, by simp, ?_, by omega⟩
      rw [Nat.pow_add]
      have := Nat.mul_le_mul_left 4294967296 (show y + 1 ≤ 2 ^ t by omega)
      rw [show 2 ^ 32 = 4294967296 by decide]
      omega

set_option maxHeartbeats 2000000 in
theorem SetBit_mid (bz bx A i : Nat) (w : World) (hz : Slot w bz) (hx : BigAt w bx ((A * (2 * 2 ^ i) : Nat) : Int)) (hi : i ≤ 30) (hA : (A + 1) * (2 * 2 ^ i) ≤ 2147483648) :
    Calls Try.prog 43 #[.pointer (some ⟨bz, 0, none⟩), .pointer (some ⟨bx, 0, none⟩), .int .i64 (i : Int), .int .u64 1] w fun e w' => e = .returned (.pointer (some ⟨bz, 0, none⟩)) ∧ BigAt w' bz (((2 * A + 1) * 2 ^ i : Nat) : Int) ∧ Upd bz w w' := by
  have hA1 : A * (2 * 2 ^ i) + 2 * 2 ^ i ≤ 2147483648 := by rw [Nat.add_mul, Nat.one_mul] at hA; exact hA
  have hpp : 0 < 2 ^ i := Nat.two_pow_pos i
  have hor := or_top A i (2 ^ i) rfl hpp
  have han := andNot_u32 A i (by omega) (by omega)
  obtain ⟨p, hp⟩ : ∃ p, p = 2 ^ i := ⟨_, rfl⟩
  have hpI : (2 : Int) ^ i = (p : Int) := by rw [hp]; simp
  rw [← hp] at hA1 hpp hor han hx ⊢
  obtain ⟨R, hR⟩ : ∃ R, R = A * (2 * p) := ⟨_, rfl⟩
  rw [← hR] at hA1 hor han hx
  obtain ⟨T, hT⟩ : ∃ T, T = (2 * A + 1) * p := ⟨_, rfl⟩
  rw [← hT] at hor ⊢
  have hoI : bits .or .u32 (R : Int) (p : Int) = (T : Int) := by rw [or_w32 R p (by omega) (by omega), hor]
  have hTb : T < 4294967296 := by rw [← hor]; exact Nat.or_lt_two_pow (n := 32) (by omega) (by omega)
  have hLow := low_small bx R w hx (by omega)
  have HLow : Hid (Calls Try.prog 62 #[.pointer (some ⟨bx, 0, none⟩), .int .i64 2] w fun e w' => e = .returned (.slice (some ⟨w.heap.size, 0, none⟩) 2 2) ∧ Row w' w.heap.size [R, 0] ∧ Below w.heap.size w w') := hLow
  obtain ⟨aa, len, cap, c0, c1, ns, _⟩ := hx.open
  have hlen : len ≤ 1 := by
    rw [Int.natAbs_natCast] at ns
    obtain ⟨l, a2, g2, cap2, he, va, na, sa, pa, cell, hlc, lt⟩ := ns.open
    simp only [Value.slice.injEq] at he
    rw [he.2.1]
    exact na.len (by rw [pw_one, va]; omega)
  have hmx : max (len : Int) 1 = 1 := by omega
  have hi0 : Int.tdiv (i : Int) 32 = 0 := by
    show ((i / 32 : Nat) : Int) = 0
    rw [Nat.div_eq_of_lt (by omega)]; rfl
  have hi1 : (i : Int) / 32 = 0 := by omega
  have him : (i : Int) % 32 = (i : Int) := by omega
  have hiu : IntKind.u64.wrap (i : Int) = (i : Int) := by rw [IntKind.wrap_u64]; omega
  have HZ : Hid (Slot w bz) := hz
  have lz := hz.lt
  clear hz hx ns hor hT hR hp hLow c0
  go_enter Try.func43, Try.ntmps43
  go_wp2_with fail
  refine HLow.out.mono ?_
  rintro e w1 ⟨rfl, r1, k1⟩
  have R1 : Hid (Row w1 w.heap.size [R, 0]) := r1
  have q0 := r1.cell 0 (by simp)
  have q1 := r1.frozen 0
  simp at q0
  have K1 : Hid (Below w.heap.size w w1) := k1
  clear r1 k1 c1 HLow
  go_wp2_with fail
  have hb1 : bits .and .u64 1 1 = 1 := by decide
  have hval : bits .or .u32 (R : Int) (bits .and .u64 1 1 % 4294967296 * (p : Int) % 4294967296) = (T : Int) := by
    rw [hb1, show (1 : Int) % 4294967296 * (p : Int) % 4294967296 = (p : Int) by omega, hoI]
  rw [hval]
  have R2 : Row ((w1.setCell ⟨w.heap.size, 0, none⟩ (.int .u32 (R : Int))).setCell ⟨w.heap.size, 0, none⟩ (.int .u32 (T : Int))) w.heap.size [T, 0] := by
    have := (R1.out.set 0 (R : Int) R rfl).set 0 (T : Int) T rfl
    simpa using this
  have K2 : Below w.heap.size w ((w1.setCell ⟨w.heap.size, 0, none⟩ (.int .u32 (R : Int))).setCell ⟨w.heap.size, 0, none⟩ (.int .u32 (T : Int))) := (K1.out.setCell (Nat.le_refl _) _).setCell (Nat.le_refl _) _
  generalize hW2 : ((w1.setCell ⟨w.heap.size, 0, none⟩ (.int .u32 (R : Int))).setCell ⟨w.heap.size, 0, none⟩ (.int .u32 (T : Int))) = W2 at R2 K2 ⊢
  clear hval hb1 hW2 q0 q1 hoI han hpI hi0 hi1 him hiu hmx
  refine (of_small bz w.heap.size T W2 (HZ.out.below K2 (Nat.le_refl _)) R2 hTb).mono ?_
  rintro e w3 ⟨rfl, hbig, hu⟩
  have HB : Hid (BigAt w3 bz (T : Int)) := hbig
  have HU : Hid (Upd bz w w3) := Upd.then_below K2 hu
  clear hbig hu K2 R2
  go_wp2
  go_ret
  exact ⟨rfl, HB.out, HU.out⟩

set_option maxHeartbeats 4000000 in
theorem Sqrt_mid (bz bx n : Nat) (w : World) (hz : Slot w bz) (hx : BigAt w bx (n : Int)) (hn : n < 1099511627776) :
    Calls Try.prog 23 #[.pointer (some ⟨bz, 0, none⟩), .pointer (some ⟨bx, 0, none⟩)] w fun e w' => ∃ r : Nat, e = .returned (.pointer (some ⟨bz, 0, none⟩)) ∧ BigAt w' bz (r : Int) ∧ (r * r ≤ n ∧ n < (r + 1) * (r + 1)) ∧ Upd bz w w' := by
  obtain ⟨aa, len, cap, c0, c1, ns, _⟩ := hx.open
  have hng : decide ((n : Int) < 0) = false := decide_eq_false (by omega)
  rw [hng] at c0
  rw [Int.natAbs_natCast] at ns
  have lx := hx.lt
  have lz := hz.lt
  have HX : Hid (BigAt w bx (n : Int)) := hx
  have HZ : Hid (Slot w bz) := hz
  have HNS : Hid (NS w (.slice aa len cap) n) := ns
  clear hx hz ns hng
  have kA : Below w.heap.size w (w.alloc (.cells #[.bool false, .slice none 0 0] 54)) := (Below.refl _ _).alloc (Nat.le_refl _) _
  have hzero : BigAt (w.alloc (.cells #[.bool false, .slice none 0 0] 54)) w.heap.size ((0 : Nat) : Int) := by
    refine ⟨.slice none 0 0, ?_, [], ⟨by simp, .inl ⟨rfl, rfl⟩⟩, rfl, .inl rfl⟩
    have : (w.alloc (.cells #[.bool false, .slice none 0 0] 54)).heap[w.heap.size]? = some (.cells #[.bool false, .slice none 0 0] 54) := heap_alloc_new _ _
    simpa using this
  have HZr : Hid (BigAt (w.alloc (.cells #[.bool false, .slice none 0 0] 54)) w.heap.size ((0 : Nat) : Int)) := hzero
  have HK : Hid (Below w.heap.size w (w.alloc (.cells #[.bool false, .slice none 0 0] 54))) := kA
  clear hzero kA
  have d1 : ∀ x : Obj, (w.alloc x).cell? ⟨bx, 1, none⟩ = some (.slice aa len cap) := fun x => (cell_old_at _ _ _ lx).trans c1
  go_enter Try.func23, Try.ntmps23
  go_wp2_with fail
  generalize hW1 : (w.alloc (.cells #[.bool false, .slice none 0 0] 54)) = W1 at HZr HK ⊢
  refine (length_mid _ n W1 (HNS.out.below HK.out (Nat.le_refl _)) hn).mono ?_
  rintro e w2 ⟨L, rfl, hL, hL2, hw2⟩
  rw [hw2]
  clear hw2 w2
  obtain ⟨j0, hj0⟩ : ∃ j0 : Nat, j0 = (L + 1) / 2 + 1 := ⟨_, rfl⟩
  have hq0 : Int.tdiv ((L : Int) + 1) 2 = (j0 : Int) - 1 := by
    have : Int.tdiv ((L : Int) + 1) 2 = (((L + 1) / 2 : Nat) : Int) := rfl
    omega
  have hq1 : ((L : Int) + 1) / 2 = (j0 : Int) - 1 := by omega
  have hj17 : j0 ≤ 21 := by omega
  have hst : n < (1 * 2 ^ j0) * (1 * 2 ^ j0) := by
    rw [Nat.one_mul, ← Nat.pow_add]
    exact Nat.lt_of_lt_of_le hL (Nat.pow_le_pow_right (by omega) (by omega))
  have HSt : Hid (n < (1 * 2 ^ j0) * (1 * 2 ^ j0)) := hst
  clear hL hst hj0 hL2 d1 c1 c0 HNS
  have z1 : W1.heap.size = w.heap.size + 1 := by rw [← hW1]; simp
  clear hW1
  go_wp2
  go_loopw [5, 6] (fun rv iv wx => ∃ j b A : Nat, rv = .pointer (some ⟨b, 0, none⟩) ∧ iv = .int .i64 ((j : Int) - 1) ∧ j ≤ 21 ∧ Hid (BigAt wx b ((A * 2 ^ j : Nat) : Int) ∧ ((A * 2 ^ j) * (A * 2 ^ j) ≤ n ∧ n < ((A + 1) * 2 ^ j) * ((A + 1) * 2 ^ j)) ∧ Below w.heap.size w wx)) (fun _ iv _ => (intOf iv + 1).toNat)
  case atStart => exact ⟨j0, w.heap.size, 0, rfl, rfl, hj17, by rw [Nat.zero_mul]; exact HZr.out, ⟨by simp, HSt.out⟩, HK.out⟩
  case round =>
    clear HSt HZr HK hq0 hq1 hj17
    obtain ⟨j, b, A, rfl, rfl, hj, HR⟩ := hrel
    by_cases hj0 : j = 0
    · subst hj0
      have hR := HR.out
      simp only [Nat.pow_zero, Nat.mul_one] at hR
      have HR2 : Hid (BigAt wr b (A : Int) ∧ (A * A ≤ n ∧ n < (A + 1) * (A + 1)) ∧ Below w.heap.size w wr) := hR
      have hAb : A < 2000000 := by
        rcases Nat.lt_or_ge A 2000000 with h | h
        · exact h
        · have := Nat.mul_le_mul h h; have := hR.2.1.1; omega
      clear HR hR
      go_wp2_with fail
      refine (Set_any bz b (A : Int) 1 wr (HZ.out.below HR2.out.2.2 (Nat.le_refl _)) HR2.out.1 (by rw [pw_one, Int.natAbs_natCast]; omega) (by omega)).mono ?_
      rintro e w3 ⟨rfl, hb, hu⟩
      go_wp2
      go_ret
      exact ⟨A, rfl, hb, HR2.out.2.1, Upd.then_below HR2.out.2.2 hu⟩
    · obtain ⟨i, rfl⟩ : ∃ i, j = i + 1 := ⟨j - 1, by omega⟩
      have hR := HR.out
      have hpe : 2 ^ (i + 1) = 2 * 2 ^ i := by rw [Nat.pow_succ, Nat.mul_comm]
      rw [hpe] at hR
      have hp16 : 2 ^ i ≤ 1048576 := Nat.pow_le_pow_right (show 0 < 2 by omega) (show i ≤ 20 by omega)
      have hAp : A * (2 * 2 ^ i) < 1048576 := by
        rcases Nat.lt_or_ge (A * (2 * 2 ^ i)) 1048576 with h | h
        · exact h
        · have := Nat.mul_le_mul h h; have := hR.2.1.1; omega
      have hA2 : (A + 1) * (2 * 2 ^ i) ≤ 2147483648 := by rw [Nat.add_mul, Nat.one_mul]; omega
      obtain ⟨T, hT⟩ : ∃ T, T = (2 * A + 1) * 2 ^ i := ⟨_, rfl⟩
      have hTb : T < 2097152 := by
        rw [hT, Nat.add_mul, Nat.one_mul, Nat.mul_comm 2 A, Nat.mul_assoc]; omega
      have HR2 : Hid (BigAt wr b ((A * (2 * 2 ^ i) : Nat) : Int) ∧ ((A * (2 * 2 ^ i)) * (A * (2 * 2 ^ i)) ≤ n ∧ n < ((A + 1) * (2 * 2 ^ i)) * ((A + 1) * (2 * 2 ^ i))) ∧ Below w.heap.size w wr) := hR
      have HT : Hid (T = (2 * A + 1) * 2 ^ i) := hT
      have HSb : Hid (∀ (W : World) (bz' : Nat), Slot W bz' → BigAt W b ((A * (2 * 2 ^ i) : Nat) : Int) → Calls Try.prog 43 #[.pointer (some ⟨bz', 0, none⟩), .pointer (some ⟨b, 0, none⟩), .int .i64 (i : Int), .int .u64 1] W fun e w' => e = .returned (.pointer (some ⟨bz', 0, none⟩)) ∧ BigAt w' bz' (T : Int) ∧ Upd bz' W w') := fun W bz' h1 h2 => by
        rw [hT]; exact SetBit_mid bz' b A i W h1 h2 (by omega) hA2
      have hge : decide ((0 : Int) ≤ (i : Int)) = true := decide_eq_true (by omega)
      have hii : ((i + 1 : Nat) : Int) - 1 = (i : Int) := by omega
      rw [hii]
      clear hR HR hT hA2 hAp hp16 hpe
      go_wp2_with fail
      have ka := (Below.refl wr.heap.size wr).alloc (Nat.le_refl _) (.cells #[.bool false, .slice none 0 0] 54)
      refine (HSb.out _ wr.heap.size (slot_new wr _ _) (HR2.out.1.below ka (Nat.le_refl _))).mono ?_
      rintro e w3 ⟨rfl, hb3, hu3⟩
      have k3 : Below wr.heap.size wr w3 := ka.trans (hu3.below (by simp) (Nat.le_refl _))
      have HB3 : Hid (BigAt w3 wr.heap.size (T : Int)) := hb3
      have HK3 : Hid (Below wr.heap.size wr w3) := k3
      have z3 : wr.heap.size < w3.heap.size := hb3.lt
      clear hb3 hu3 ka k3
      go_wp2_with fail
      have ka := (Below.refl w3.heap.size w3).alloc (Nat.le_refl _) (.cells #[.bool false, .slice none 0 0] 54)
      refine (Mul_any w3.heap.size wr.heap.size wr.heap.size (T : Int) (T : Int) 1 1 _ (slot_new w3 _ _) (HB3.out.below ka (Nat.le_refl _)) (HB3.out.below ka (Nat.le_refl _)) (by rw [pw_one, Int.natAbs_natCast]; omega) (by rw [pw_one, Int.natAbs_natCast]; omega) (by omega) (by omega)).mono ?_
      rintro e w4 ⟨rfl, hb4, hu4⟩
      have k4 : Below w3.heap.size w3 w4 := ka.trans (hu4.below (by simp) (Nat.le_refl _))
      obtain ⟨TT, hTT⟩ : ∃ TT : Nat, TT = T * T := ⟨_, rfl⟩
      have hTTI : (T : Int) * (T : Int) = (TT : Int) := by rw [hTT, Int.natCast_mul]
      rw [hTTI] at hb4
      have hTTb : TT ≤ 4398046511104 := by
        rw [hTT]; have := Nat.mul_le_mul (Nat.le_of_lt hTb) (Nat.le_of_lt hTb); omega
      have HTT : Hid (TT = T * T) := hTT
      have k34 : Below wr.heap.size wr w4 := HK3.out.trans (k4.mono (by omega))
      have HB4 : Hid (BigAt w4 wr.heap.size (T : Int)) := HB3.out.below k4 (Nat.le_refl _)
      have HK4 : Hid (Below wr.heap.size wr w4) := k34
      have HR4 : Hid (BigAt w4 b ((A * (2 * 2 ^ i) : Nat) : Int)) := HR2.out.1.below k34 (Nat.le_refl _)
      have HM4 : Hid (BigAt w4 w3.heap.size (TT : Int)) := hb4
      have HX4 : Hid (BigAt w4 bx (n : Int)) := HX.out.below (HR2.out.2.2.trans (k34.mono HR2.out.2.2.size)) (Nat.le_refl _)
      clear hb4 hu4 ka k4 k34 HB3 HK3 hTT hTTI HSb
      go_wp2_with fail
      refine (Cmp_any w3.heap.size bx (TT : Int) (n : Int) 2 2 w4 HM4.out HX4.out (by rw [pw_two, Int.natAbs_natCast]; omega) (by rw [pw_two, Int.natAbs_natCast]; omega) (by omega) (by omega)).mono ?_
      rintro e w5 ⟨rfl, k, hw5⟩
      rw [hw5]
      clear hw5 w5
      by_cases hc : TT ≤ n
      · have hcz : decide (cmpZ (TT : Int) (n : Int) ≤ 0) = true := by
          refine decide_eq_true ?_
          unfold cmpZ; split <;> (try split) <;> omega
        generalize cmpZ (TT : Int) (n : Int) = cz at hcz ⊢
        go_wp2
        go_roundw
        case rel =>
          refine ⟨i, wr.heap.size, 2 * A + 1, rfl, by go_num, by omega, ?_, ⟨?_, ?_⟩, ?_⟩
          · rw [← HT.out]; exact HB4.out.drewN
          · rw [← HT.out, ← HTT.out]; exact hc
          · have := HR2.out.2.1.2
            have e : (A + 1) * (2 * 2 ^ i) = (2 * A + 1 + 1) * 2 ^ i := by
              rw [← Nat.mul_assoc]; congr 1; omega
            rw [← e]; exact this
          · exact below_drewN' (HR2.out.2.2.trans (HK4.out.mono HR2.out.2.2.size))
        case measure => simp [intOf]
      · have hcz : decide (cmpZ (TT : Int) (n : Int) ≤ 0) = false := by
          refine decide_eq_false ?_
          unfold cmpZ; split <;> (try split) <;> omega
        generalize cmpZ (TT : Int) (n : Int) = cz at hcz ⊢
        go_wp2
        go_roundw
        case rel =>
          have e : A * (2 * 2 ^ i) = (2 * A) * 2 ^ i := by rw [← Nat.mul_assoc, Nat.mul_comm A 2]
          refine ⟨i, b, 2 * A, rfl, by go_num, by omega, ?_, ⟨?_, ?_⟩, ?_⟩
          · rw [← e]; exact HR4.out.drewN
          · rw [← e]; exact HR2.out.2.1.1
          · rw [← HT.out, ← HTT.out]; omega
          · exact below_drewN' (HR2.out.2.2.trans (HK4.out.mono HR2.out.2.2.size))
        case measure => simp [intOf]


set_option maxHeartbeats 4000000 in
theorem IsSquare_mid (n : Nat) (w : World) (hn : n < 1099511627776) :
    Calls Try.prog 22 #[.int .i64 (n : Int)] w fun e w' => ∃ r : Nat, (r * r ≤ n ∧ n < (r + 1) * (r + 1)) ∧ e = .returned (.bool (decide (r * r = n))) ∧ Below w.heap.size w w' := by
  go_enter Try.func22, Try.ntmps22
  go_wp2_with fail
  obtain ⟨W0, hW0⟩ : ∃ W0, W0 = ((w.alloc (.cells #[.bool false, .slice none 0 0] 54)).alloc (.cells #[.bool false, .slice none 0 0] 54)) := ⟨_, rfl⟩
  have K0 : Below w.heap.size w W0 := by rw [hW0]; exact ((Below.refl _ _).alloc (Nat.le_refl _) _).alloc (by simp) _
  have S0 : Slot W0 w.heap.size := by rw [hW0]; exact (slot_new w _ _).below ((Below.refl _ _).alloc (Nat.le_refl _) _) (Nat.le_refl _)
  have S1 : Slot W0 (w.heap.size + 1) := by rw [hW0]; have := slot_new (w.alloc (.cells #[.bool false, .slice none 0 0] 54)) (.bool false) (.slice none 0 0); simpa using this
  rw [← hW0]
  have z0 : W0.heap.size = w.heap.size + 2 := by rw [hW0]; simp
  clear hW0
  refine (B_any (n : Int) W0 (by omega) (by omega)).mono ?_
  rintro e w1 ⟨b1, rfl, g1, h1, k1⟩
  have HS0 : Hid (Slot w1 w.heap.size) := S0.below k1 (Nat.le_refl _)
  have HS1 : Hid (Slot w1 (w.heap.size + 1)) := S1.below k1 (Nat.le_refl _)
  have HK1 : Hid (Below w.heap.size w w1) := K0.trans (k1.mono (by omega))
  have HB1 : Hid (BigAt w1 b1 (n : Int)) := h1
  have z1 : w.heap.size + 2 ≤ w1.heap.size := by have := k1.size; omega
  clear S0 S1 k1 h1 K0
  go_wp2_with fail
  refine (Sqrt_mid (w.heap.size + 1) b1 n w1 HS1.out HB1.out hn).mono ?_
  rintro e w2 ⟨r, rfl, h2, hr, u2⟩
  have hr5 : r < 1048576 := by
    rcases Nat.lt_or_ge r 1048576 with h | h
    · exact h
    · have := Nat.mul_le_mul h h; omega
  have HS0 : Hid (Slot w2 w.heap.size) := HS0.out.upd u2 (by omega)
  have HB2 : Hid (BigAt w2 (w.heap.size + 1) (r : Int)) := h2
  have HK2 : Hid (Below w.heap.size w w2) := HK1.out.trans (u2.below (by omega) (by omega))
  have z2 : w.heap.size + 2 ≤ w2.heap.size := Nat.le_trans z1 u2.size
  have HRr : Hid (r * r ≤ n ∧ n < (r + 1) * (r + 1)) := hr
  clear HS1 h2 u2 hr HB1
  go_wp2_with fail
  refine (B_any 2 w2 (by omega) (by omega)).mono ?_
  rintro e w3 ⟨b3, rfl, g3, h3, k3⟩
  have HS3 : Hid (Slot w3 w.heap.size) := HS0.out.below k3 (Nat.le_refl _)
  have HB3 : Hid (BigAt w3 (w.heap.size + 1) (r : Int)) := HB2.out.below k3 (Nat.le_refl _)
  have HT3 : Hid (BigAt w3 b3 ((2 : Nat) : Int)) := h3
  have HK3 : Hid (Below w.heap.size w w3) := HK2.out.trans (k3.mono (by omega))
  have z3 : w.heap.size + 2 ≤ w3.heap.size := Nat.le_trans z2 k3.size
  clear HS0 HB2 k3 h3
  go_wp2_with fail
  refine (Exp_nil w.heap.size (w.heap.size + 1) b3 (r : Int) 2 1 1 w3 HS3.out HB3.out HT3.out (by rw [pw_one, Int.natAbs_natCast]; omega) (by rw [pw_one]; omega) (by omega) (by omega) (by omega)).mono ?_
  rintro e w4 ⟨rfl, h4, u4⟩
  obtain ⟨R, hR⟩ : ∃ R : Nat, R = r * r := ⟨_, rfl⟩
  have hRI : (r : Int) ^ 2 = (R : Int) := by rw [hR, Int.natCast_mul, Int.pow_succ, Int.pow_succ, Int.pow_zero, Int.one_mul]
  rw [hRI] at h4
  have HB4 : Hid (BigAt w4 w.heap.size (R : Int)) := h4
  have HK4 : Hid (Below w.heap.size w w4) := HK3.out.trans (u4.below (by omega) (Nat.le_refl _))
  have HR : Hid (R = r * r) := hR
  have hRb : R ≤ n := by have := HRr.out.1; omega
  have z4 : w.heap.size + 2 ≤ w4.heap.size := Nat.le_trans z3 u4.size
  clear h4 u4 HS3 HB3 HT3 hR hRI
  go_wp2_with fail
  refine (B_any (n : Int) w4 (by omega) (by omega)).mono ?_
  rintro e w5 ⟨b5, rfl, g5, h5, k5⟩
  have HB5 : Hid (BigAt w5 w.heap.size (R : Int)) := HB4.out.below k5 (Nat.le_refl _)
  have HN5 : Hid (BigAt w5 b5 (n : Int)) := h5
  have HK5 : Hid (Below w.heap.size w w5) := HK4.out.trans (k5.mono (by omega))
  clear h5 k5
  go_wp2_with fail
  refine (Cmp_any w.heap.size b5 (R : Int) (n : Int) 2 2 w5 HB5.out HN5.out (by rw [pw_two, Int.natAbs_natCast]; omega) (by rw [pw_two, Int.natAbs_natCast]; omega) (by omega) (by omega)).mono ?_
  rintro e w6 ⟨rfl, q, hw6⟩
  rw [hw6]
  clear hw6 w6
  have hcz : (cmpZ (R : Int) (n : Int) == 0) = decide (r * r = n) := by
    rw [← HR.out]
    by_cases h : R = n
    · subst h; simp [cmpZ]
    · have : R < n := by omega
      have e : cmpZ (R : Int) (n : Int) = -1 := by unfold cmpZ; rw [if_pos (by omega)]
      rw [e]; simp [h]
  generalize hbd : decide (r * r = n) = bd at hcz
  have HBd : Hid (decide (r * r = n) = bd) := hbd
  generalize cmpZ (R : Int) (n : Int) = cz at hcz ⊢
  clear hbd
  go_wp2
  go_ret
  exact ⟨r, HRr.out, by rw [HBd.out]; rfl, below_drewN' HK5.out⟩


end Go.Proofs.Ytknnidbdgfimbaa
