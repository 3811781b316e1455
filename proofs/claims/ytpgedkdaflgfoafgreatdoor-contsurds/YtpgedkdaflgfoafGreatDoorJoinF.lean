import Derived.Test.YtpgedkdaflgfoafGreatDoorJoinE
import Derived.Test.YtpgedkdaflgfoafGreatDoorJoinD
import Derived.Test.YtpgedkdaflgfoafGreatDoorBigM
import Derived.Laws.CopyOwn
import Derived.Lib.ItoaNum
section
/- The long numbers' Sqrt, of small numbers: low, of, SetBit, length. -/
set_option linter.unusedSimpArgs false
set_option linter.unusedVariables false
set_option maxRecDepth 100000
namespace Go.Proofs.YtpgedkdaflgfoafGreatDoor
open Go.RowKit

theorem pw_one : pw 1 = 4294967296 := by decide
theorem length_small (s : Value) (a : Nat) (w : World) (ha : NS w s a) (hm : a < 4294967296) :
    Calls Tryz.prog 88 #[s] w fun e w' => ∃ L : Nat, e = .returned (.int .i64 (L : Int)) ∧ a < 2 ^ L ∧ L ≤ 32 ∧ w' = w := by
  obtain ⟨l, aa, g, cap, rfl, va, na, sa, pa, cell, _, lt⟩ := ha.open
  subst va
  have l1 : l.length ≤ 1 := na.len (by rw [pw_one]; exact hm)
  by_cases h0 : l.length = 0
  · obtain rfl : l = [] := List.length_eq_zero_iff.1 h0
    clear ha pa cell lt hm
    go_enter Tryz.func88, Tryz.ntmps88
    go_wp2
    go_ret
    exact ⟨0, rfl, by simp [val], by omega, rfl⟩
  · refine (length_core l aa g cap w (by omega) (by omega) sa (pa (by omega)) (cell _ (by omega))).mono ?_
    rintro e w' ⟨t, rfl, hb, ht, rfl⟩
    obtain ⟨x, rfl⟩ : ∃ x, l = [x] := by
      match l, l1, h0 with
      | [x], _, _ => exact ⟨x, rfl⟩
    refine ⟨_, rfl, ?_, by simp; omega, rfl⟩
    have := hb.lt
    simpa [val] using this

set_option maxHeartbeats 1000000 in
theorem low_small (b R : Nat) (w : World) (h : BigAt w b (R : Int)) (hR : R < 4294967296) :
    Calls Tryz.prog 115 #[.pointer (some ⟨b, 0, none⟩), .int .i64 2] w fun e w' => e = .returned (.slice (some ⟨w.heap.size, 0, none⟩) 2 2) ∧ Row w' w.heap.size [R, 0] ∧ Below w.heap.size w w' := by
  obtain ⟨i0, hi, hz0, hz1, hz2⟩ := info_parts Tryz.info32
  have hb := h.lt
  obtain ⟨aa, len, cap, c0, c1, ns, _⟩ := h.open
  have hng : decide ((R : Int) < 0) = false := decide_eq_false (by omega)
  rw [hng] at c0
  have hRa : (R : Int).natAbs = R := Int.natAbs_natCast R
  rw [hRa] at ns
  obtain ⟨l, a2, g2, cap2, he, va, na, sa, pa, cell, hlc, lt⟩ := ns.open
  simp only [Value.slice.injEq] at he
  obtain ⟨rfl, rfl, rfl⟩ := he
  have l1 : l.length ≤ 1 := na.len (by rw [pw_one, va]; exact hR)
  clear h ns
  go_enter Tryz.func115, Tryz.ntmps115
  go_wp2_with (at_make; refine wpList_make_full _ rfl _ _ 46 rfl w.heap.size 101 i0 (.int .u32 0) 1 Tryz.underlying46 hi hz0 hz1 .i64 .i64 _ _ 2 rfl rfl (by omega) (by omega) (by rw [hz2]; omega) (by unfold maxLen; omega) (Nat.le_refl _) ?_)
  intro w1 hmk hb1
  have R1 : Hid (Row w1 w.heap.size [0, 0]) := Row.of_make hmk
  have KB1 : Hid (Below w.heap.size w w1) := ⟨hb1.os, hb1.tape, hb1.output, hb1.size, fun k hk => hb1.block k hk (by simp)⟩
  have d0 : w1.cell? ⟨b, 0, none⟩ = some (.bool false) := (KB1.out.cell (p := ⟨b, 0, none⟩) hb).trans c0
  have d1 : w1.cell? ⟨b, 1, none⟩ = some (.slice aa l.length cap) := (KB1.out.cell (p := ⟨b, 1, none⟩) hb).trans c1
  have HSrc : Hid (0 < (l.map fun x : Nat => Value.int .u32 (x : Int)).length → ∃ ad, aa = some ad ∧ ∀ j v, (l.map fun x : Nat => Value.int .u32 (x : Int))[j]? = some v → w1.cell? (ad.add j) = some v) := by
    intro h
    rw [List.length_map] at h
    refine ⟨⟨g2, 0, none⟩, pa h, fun j v hj => ?_⟩
    have hjl : j < l.length := by
      rcases Nat.lt_or_ge j l.length with c | c
      · exact c
      · rw [List.getElem?_eq_none (by simpa using c)] at hj; cases hj
    have e : ((⟨g2, 0, none⟩ : Addr).add j) = ⟨g2, j, none⟩ := by
      cases j with
      | zero => rfl
      | succ n => simp [Addr.add]
    rw [e, KB1.out.cell (p := ⟨g2, j, none⟩) (lt h), cell j hjl, ← hj]; simp [hjl]
  have HON : Hid (∀ v ∈ (l.map fun x : Nat => Value.int .u32 (x : Int)), v.oneCell' = true) := by
    intro u hu; simp at hu; obtain ⟨x, _, rfl⟩ := hu; rfl
  have HMI : Hid ((l.map fun x : Nat => Value.int .u32 (x : Int)).length = Nat.min l.length 2) := by
    show _ = min _ _; rw [List.length_map]; omega
  have HFI : Hid (0 + (l.map fun x : Nat => Value.int .u32 (x : Int)).length ≤ (([0, 0] : List Nat).map fun x : Nat => Value.int .u32 (x : Int)).length) := by
    show _ ≤ _; simp; omega
  have HV : Hid (val l = R ∧ l.length ≤ 1) := ⟨va, l1⟩
  clear hmk hb1 c0 c1 pa cell lt na sa va hng hRa
  go_wp2_with ((refine wpList_copy_splice rfl _ _ 46 46 rfl 101 Tryz.underlying46 Tryz.size32 _ _ _ _ _ _ rfl rfl w.heap.size 0 (([0, 0] : List Nat).map fun x : Nat => Value.int .u32 (x : Int)) 101 R1.out (l.map fun x : Nat => Value.int .u32 (x : Int)) HMI.out (fun h => ⟨rfl, HSrc.out h⟩) HFI.out HON.out w.heap.size w KB1.out (Nat.le_refl _) ?_))
  intro w2 hr2 k2
  have R2 : Hid (Row w2 w.heap.size [R, 0]) := by
    show _ = _
    rw [hr2.out]
    obtain ⟨hv, hl⟩ := HV.out
    rcases l with _ | ⟨x, _ | ⟨y, t⟩⟩
    · simp [val] at hv; subst hv; rfl
    · simp [val] at hv; subst hv; rfl
    · simp at hl
  have K2 : Hid (Below w.heap.size w w2) := k2
  have d0 : w2.cell? ⟨b, 0, none⟩ = some (.bool false) := (k2.cell (p := ⟨b, 0, none⟩) hb).trans ((KB1.out.cell (p := ⟨b, 0, none⟩) hb).symm.trans d0)
  clear hr2 k2 R1 KB1 HSrc HON HMI HFI d1
  go_wp2
  go_ret
  exact ⟨rfl, R2.out, K2.out⟩

set_option maxHeartbeats 1000000 in
theorem of_small (bz g x : Nat) (w : World) (hz : Slot w bz) (hr : Row w g [x, 0]) (hx : x < 4294967296) :
    Calls Tryz.prog 116 #[.pointer (some ⟨bz, 0, none⟩), .slice (some ⟨g, 0, none⟩) 2 2] w fun e w' => e = .returned (.pointer (some ⟨bz, 0, none⟩)) ∧ BigAt w' bz (x : Int) ∧ Upd bz w w' := by
  have c1 := hr.cell 1 (by simp)
  simp at c1
  have hsl : Sl w (.slice (some ⟨g, 0, none⟩) 2 2) [x, 0] := hr.sl (by intro y hy; simp at hy; omega)
  have HS : Hid (Sl w (.slice (some ⟨g, 0, none⟩) 2 2) [x, 0]) := hsl
  have HZ : Hid (Slot w bz) := hz
  have hval : val [x, 0] = x := by simp [val]
  clear hsl hz hr
  go_enter Tryz.func116, Tryz.ntmps116
  go_wp2_with fail
  refine (trim_any [x, 0] _ w (by simp) HS.out).mono ?_
  rw [hval]
  rintro e w1 ⟨s, rfl, ns, hw1⟩
  rw [hw1]
  clear hw1 w1
  obtain ⟨sa, sl, sc, rfl, _⟩ := ns.shape
  go_wp2_with fail
  refine (give_any bz false _ x w HZ.out ns).mono ?_
  rintro e w2 ⟨rfl, hbig, hu⟩
  have HB : Hid (BigAt w2 bz (x : Int)) := by show BigAt _ _ _; simpa [sgd] using hbig
  clear hbig
  go_wp2
  go_ret
  exact ⟨rfl, HB.out, hu⟩

end Go.Proofs.YtpgedkdaflgfoafGreatDoor
end

section
/- The long numbers' SetBit and Sqrt, of small numbers. -/
set_option linter.unusedSimpArgs false
set_option linter.unusedVariables false
set_option maxRecDepth 100000
namespace Go.Proofs.YtpgedkdaflgfoafGreatDoor
open Go.RowKit

theorem or_w32 (a b : Nat) (ha : a < 4294967296) (hb : b < 4294967296) : bits .or .u32 (a : Int) (b : Int) = ((a ||| b : Nat) : Int) := by
  have hx : a ||| b < 2 ^ 32 := Nat.or_lt_two_pow (by omega) (by omega)
  have h1 : (BitVec.ofInt 32 (a : Int)).toNat = a := by
    rw [BitVec.ofInt_natCast, BitVec.toNat_ofNat]; exact Nat.mod_eq_of_lt (by omega)
  have h2 : (BitVec.ofInt 32 (b : Int)).toNat = b := by
    rw [BitVec.ofInt_natCast, BitVec.toNat_ofNat]; exact Nat.mod_eq_of_lt (by omega)
  show IntKind.u32.wrap ((BitVec.ofInt 32 (a : Int) ||| BitVec.ofInt 32 (b : Int)).toNat : Int) = _
  rw [BitVec.toNat_or, h1, h2, IntKind.wrap_u32]
  omega
theorem andNot_u32 (A e : Nat) (h : A * (2 * 2 ^ e) < 4294967296) (he : e < 32) : bits .andNot .u32 ((A * (2 * 2 ^ e) : Nat) : Int) ((2 ^ e : Nat) : Int) = ((A * (2 * 2 ^ e) : Nat) : Int) := by
  obtain ⟨R, hR⟩ : ∃ R, R = A * (2 * 2 ^ e) := ⟨_, rfl⟩
  rw [← hR] at h ⊢
  have hp : 2 ^ e < 2 ^ 32 := Nat.pow_lt_pow_right (by omega) he
  have h1 : (BitVec.ofInt 32 (R : Int)).toNat = R := by
    rw [BitVec.ofInt_natCast, BitVec.toNat_ofNat]; exact Nat.mod_eq_of_lt (by omega)
  have h2 : (BitVec.ofInt 32 ((2 ^ e : Nat) : Int)).toNat = 2 ^ e := by
    rw [BitVec.ofInt_natCast, BitVec.toNat_ofNat]; exact Nat.mod_eq_of_lt hp
  show IntKind.u32.wrap ((BitVec.ofInt 32 (R : Int) &&& ~~~BitVec.ofInt 32 ((2 ^ e : Nat) : Int)).toNat : Int) = _
  have h3 : (BitVec.ofInt 32 (R : Int) &&& ~~~BitVec.ofInt 32 ((2 ^ e : Nat) : Int)).toNat = R := by
    rw [BitVec.toNat_and, BitVec.toNat_not, h1, h2]
    apply Nat.eq_of_testBit_eq
    intro j
    rw [Nat.testBit_and, show 2 ^ 32 - 1 - 2 ^ e = 2 ^ 32 - (2 ^ e + 1) by omega, Nat.testBit_two_pow_sub_succ hp, Nat.testBit_two_pow]
    by_cases hj : j = e
    · subst hj
      have : R.testBit j = false := by
        rw [hR, Nat.mul_comm, ← Nat.pow_succ', Nat.testBit_two_pow_mul]
        simp
        omega
      simp [this]
    · by_cases hj2 : j < 32
      · simp [hj2, Ne.symm hj]
      · have : R.testBit j = false := Nat.testBit_lt_two_pow (Nat.lt_of_lt_of_le h (by
          have := Nat.pow_le_pow_right (show 0 < 2 by omega) (show 32 ≤ j by omega)
          omega))
        simp [this]
  rw [h3, IntKind.wrap_u32]
  omega

set_option maxHeartbeats 2000000 in
theorem SetBit_small (bz bx A i : Nat) (w : World) (hz : Slot w bz) (hx : BigAt w bx ((A * (2 * 2 ^ i) : Nat) : Int)) (hi : i ≤ 16) (hA : (A + 1) * (2 * 2 ^ i) ≤ 2147483648) :
    Calls Tryz.prog 89 #[.pointer (some ⟨bz, 0, none⟩), .pointer (some ⟨bx, 0, none⟩), .int .i64 (i : Int), .int .u64 1] w fun e w' => e = .returned (.pointer (some ⟨bz, 0, none⟩)) ∧ BigAt w' bz (((2 * A + 1) * 2 ^ i : Nat) : Int) ∧ Upd bz w w' := by
  have hA1 : A * (2 * 2 ^ i) + 2 * 2 ^ i ≤ 2147483648 := by rw [Nat.add_mul, Nat.one_mul] at hA; exact hA
  have hpp : 0 < 2 ^ i := Nat.two_pow_pos i
  have hor := or_top A i (2 ^ i) rfl hpp
  have han := andNot_u32 A i (by omega) (by omega)
  obtain ⟨p, hp⟩ : ∃ p, p = 2 ^ i := ⟨_, rfl⟩
  have hpI : (2 : Int) ^ i = (p : Int) := by rw [hp]; simp
  rw [← hp] at hA1 hpp hor han hx ⊢
  obtain ⟨R, hR⟩ : ∃ R, R = A * (2 * p) := ⟨_, rfl⟩
  rw [← hR] at hA1 hor han hx
  obtain ⟨T, hT⟩ : ∃ T, T = (2 * A + 1) * p := ⟨_, rfl⟩
  rw [← hT] at hor ⊢
  have hoI : bits .or .u32 (R : Int) (p : Int) = (T : Int) := by rw [or_w32 R p (by omega) (by omega), hor]
  have hTb : T < 4294967296 := by rw [← hor]; exact Nat.or_lt_two_pow (n := 32) (by omega) (by omega)
  have hLow := low_small bx R w hx (by omega)
  have HLow : Hid (Calls Tryz.prog 115 #[.pointer (some ⟨bx, 0, none⟩), .int .i64 2] w fun e w' => e = .returned (.slice (some ⟨w.heap.size, 0, none⟩) 2 2) ∧ Row w' w.heap.size [R, 0] ∧ Below w.heap.size w w') := hLow
  obtain ⟨aa, len, cap, c0, c1, ns, _⟩ := hx.open
  have hlen : len ≤ 1 := by
    rw [Int.natAbs_natCast] at ns
    obtain ⟨l, a2, g2, cap2, he, va, na, sa, pa, cell, hlc, lt⟩ := ns.open
    simp only [Value.slice.injEq] at he
    rw [he.2.1]
    exact na.len (by rw [pw_one, va]; omega)
  have hmx : max (len : Int) 1 = 1 := by omega
  have hi0 : Int.tdiv (i : Int) 32 = 0 := by
    show ((i / 32 : Nat) : Int) = 0
    rw [Nat.div_eq_of_lt (by omega)]; rfl
  have hi1 : (i : Int) / 32 = 0 := by omega
  have him : (i : Int) % 32 = (i : Int) := by omega
  have hiu : IntKind.u64.wrap (i : Int) = (i : Int) := by rw [IntKind.wrap_u64]; omega
  have HZ : Hid (Slot w bz) := hz
  have lz := hz.lt
  clear hz hx ns hor hT hR hp hLow c0
  go_enter Tryz.func89, Tryz.ntmps89
  go_wp2_with fail
  refine HLow.out.mono ?_
  rintro e w1 ⟨rfl, r1, k1⟩
  have R1 : Hid (Row w1 w.heap.size [R, 0]) := r1
  have q0 := r1.cell 0 (by simp)
  have q1 := r1.frozen 0
  simp at q0
  have K1 : Hid (Below w.heap.size w w1) := k1
  clear r1 k1 c1 HLow
  go_wp2_with fail
  have hb1 : bits .and .u64 1 1 = 1 := by decide
  have hval : bits .or .u32 (R : Int) (bits .and .u64 1 1 % 4294967296 * (p : Int) % 4294967296) = (T : Int) := by
    rw [hb1, show (1 : Int) % 4294967296 * (p : Int) % 4294967296 = (p : Int) by omega, hoI]
  rw [hval]
  have R2 : Row ((w1.setCell ⟨w.heap.size, 0, none⟩ (.int .u32 (R : Int))).setCell ⟨w.heap.size, 0, none⟩ (.int .u32 (T : Int))) w.heap.size [T, 0] := by
    have := (R1.out.set 0 (R : Int) R rfl).set 0 (T : Int) T rfl
    simpa using this
  have K2 : Below w.heap.size w ((w1.setCell ⟨w.heap.size, 0, none⟩ (.int .u32 (R : Int))).setCell ⟨w.heap.size, 0, none⟩ (.int .u32 (T : Int))) := (K1.out.setCell (Nat.le_refl _) _).setCell (Nat.le_refl _) _
  generalize hW2 : ((w1.setCell ⟨w.heap.size, 0, none⟩ (.int .u32 (R : Int))).setCell ⟨w.heap.size, 0, none⟩ (.int .u32 (T : Int))) = W2 at R2 K2 ⊢
  clear hval hb1 hW2 q0 q1 hoI han hpI hi0 hi1 him hiu hmx
  refine (of_small bz w.heap.size T W2 (HZ.out.below K2 (Nat.le_refl _)) R2 hTb).mono ?_
  rintro e w3 ⟨rfl, hbig, hu⟩
  have HB : Hid (BigAt w3 bz (T : Int)) := hbig
  have HU : Hid (Upd bz w w3) := Upd.then_below K2 hu
  clear hbig hu K2 R2
  go_wp2
  go_ret
  exact ⟨rfl, HB.out, HU.out⟩

theorem sq_grow {a b c d : Nat} (h : a < b) (hb : b * b ≤ c) (h2 : c < d) : a * a < d := by
  have := Nat.mul_le_mul (Nat.le_of_lt h) (Nat.le_of_lt h)
  omega

set_option maxHeartbeats 4000000 in
theorem Sqrt_small (bz bx n : Nat) (w : World) (hz : Slot w bz) (hx : BigAt w bx (n : Int)) (hn : n < 1073741824) :
    Calls Tryz.prog 50 #[.pointer (some ⟨bz, 0, none⟩), .pointer (some ⟨bx, 0, none⟩)] w fun e w' => ∃ r : Nat, e = .returned (.pointer (some ⟨bz, 0, none⟩)) ∧ BigAt w' bz (r : Int) ∧ (r * r ≤ n ∧ n < (r + 1) * (r + 1)) ∧ Upd bz w w' := by
  obtain ⟨aa, len, cap, c0, c1, ns, _⟩ := hx.open
  have hng : decide ((n : Int) < 0) = false := decide_eq_false (by omega)
  rw [hng] at c0
  rw [Int.natAbs_natCast] at ns
  have lx := hx.lt
  have lz := hz.lt
  have HX : Hid (BigAt w bx (n : Int)) := hx
  have HZ : Hid (Slot w bz) := hz
  have HNS : Hid (NS w (.slice aa len cap) n) := ns
  clear hx hz ns hng
  have kA : Below w.heap.size w (w.alloc (.cells #[.bool false, .slice none 0 0] 48)) := (Below.refl _ _).alloc (Nat.le_refl _) _
  have hzero : BigAt (w.alloc (.cells #[.bool false, .slice none 0 0] 48)) w.heap.size ((0 : Nat) : Int) := by
    refine ⟨.slice none 0 0, ?_, [], ⟨by simp, .inl ⟨rfl, rfl⟩⟩, rfl, .inl rfl⟩
    have : (w.alloc (.cells #[.bool false, .slice none 0 0] 48)).heap[w.heap.size]? = some (.cells #[.bool false, .slice none 0 0] 48) := heap_alloc_new _ _
    simpa using this
  have HZr : Hid (BigAt (w.alloc (.cells #[.bool false, .slice none 0 0] 48)) w.heap.size ((0 : Nat) : Int)) := hzero
  have HK : Hid (Below w.heap.size w (w.alloc (.cells #[.bool false, .slice none 0 0] 48))) := kA
  clear hzero kA
  have d1 : ∀ x : Obj, (w.alloc x).cell? ⟨bx, 1, none⟩ = some (.slice aa len cap) := fun x => (cell_old_at _ _ _ lx).trans c1
  go_enter Tryz.func50, Tryz.ntmps50
  go_wp2_with fail
  generalize hW1 : (w.alloc (.cells #[.bool false, .slice none 0 0] 48)) = W1 at HZr HK ⊢
  refine (length_small _ n W1 (HNS.out.below HK.out (Nat.le_refl _)) (by omega)).mono ?_
  rintro e w2 ⟨L, rfl, hL, hL2, hw2⟩
  rw [hw2]
  clear hw2 w2
  obtain ⟨j0, hj0⟩ : ∃ j0 : Nat, j0 = (L + 1) / 2 + 1 := ⟨_, rfl⟩
  have hq0 : Int.tdiv ((L : Int) + 1) 2 = (j0 : Int) - 1 := by
    have : Int.tdiv ((L : Int) + 1) 2 = (((L + 1) / 2 : Nat) : Int) := rfl
    omega
  have hq1 : ((L : Int) + 1) / 2 = (j0 : Int) - 1 := by omega
  have hj17 : j0 ≤ 17 := by omega
  have hst : n < (1 * 2 ^ j0) * (1 * 2 ^ j0) := by
    rw [Nat.one_mul, ← Nat.pow_add]
    exact Nat.lt_of_lt_of_le hL (Nat.pow_le_pow_right (by omega) (by omega))
  have HSt : Hid (n < (1 * 2 ^ j0) * (1 * 2 ^ j0)) := hst
  clear hL hst hj0 hL2 d1 c1 c0 HNS
  have z1 : W1.heap.size = w.heap.size + 1 := by rw [← hW1]; simp
  clear hW1
  go_wp2
  go_loopw [5, 6] (fun rv iv wx => ∃ j b A : Nat, rv = .pointer (some ⟨b, 0, none⟩) ∧ iv = .int .i64 ((j : Int) - 1) ∧ j ≤ 17 ∧ Hid (BigAt wx b ((A * 2 ^ j : Nat) : Int) ∧ ((A * 2 ^ j) * (A * 2 ^ j) ≤ n ∧ n < ((A + 1) * 2 ^ j) * ((A + 1) * 2 ^ j)) ∧ Below w.heap.size w wx)) (fun _ iv _ => (intOf iv + 1).toNat)
  case atStart => exact ⟨j0, w.heap.size, 0, rfl, rfl, hj17, by rw [Nat.zero_mul]; exact HZr.out, ⟨by simp, HSt.out⟩, HK.out⟩
  case round =>
    clear HSt HZr HK hq0 hq1 hj17
    obtain ⟨j, b, A, rfl, rfl, hj, HR⟩ := hrel
    by_cases hj0 : j = 0
    · subst hj0
      have hR := HR.out
      simp only [Nat.pow_zero, Nat.mul_one] at hR
      have HR2 : Hid (BigAt wr b (A : Int) ∧ (A * A ≤ n ∧ n < (A + 1) * (A + 1)) ∧ Below w.heap.size w wr) := hR
      have hAb : A < 1000000 := by
        rcases Nat.lt_or_ge A 1000000 with h | h
        · exact h
        · have := Nat.mul_le_mul h h; have := hR.2.1.1; omega
      clear HR hR
      go_wp2_with fail
      refine (Set_any bz b (A : Int) 1 wr (HZ.out.below HR2.out.2.2 (Nat.le_refl _)) HR2.out.1 (by rw [pw_one, Int.natAbs_natCast]; omega) (by omega)).mono ?_
      rintro e w3 ⟨rfl, hb, hu⟩
      go_wp2
      go_ret
      exact ⟨A, rfl, hb, HR2.out.2.1, Upd.then_below HR2.out.2.2 hu⟩
    · obtain ⟨i, rfl⟩ : ∃ i, j = i + 1 := ⟨j - 1, by omega⟩
      have hR := HR.out
      have hpe : 2 ^ (i + 1) = 2 * 2 ^ i := by rw [Nat.pow_succ, Nat.mul_comm]
      rw [hpe] at hR
      have hp16 : 2 ^ i ≤ 65536 := Nat.pow_le_pow_right (show 0 < 2 by omega) (show i ≤ 16 by omega)
      have hAp : A * (2 * 2 ^ i) < 32768 := by
        rcases Nat.lt_or_ge (A * (2 * 2 ^ i)) 32768 with h | h
        · exact h
        · have := Nat.mul_le_mul h h; have := hR.2.1.1; omega
      have hA2 : (A + 1) * (2 * 2 ^ i) ≤ 2147483648 := by rw [Nat.add_mul, Nat.one_mul]; omega
      obtain ⟨T, hT⟩ : ∃ T, T = (2 * A + 1) * 2 ^ i := ⟨_, rfl⟩
      have hTb : T < 200000 := by
        rw [hT, Nat.add_mul, Nat.one_mul, Nat.mul_comm 2 A, Nat.mul_assoc]; omega
      have HR2 : Hid (BigAt wr b ((A * (2 * 2 ^ i) : Nat) : Int) ∧ ((A * (2 * 2 ^ i)) * (A * (2 * 2 ^ i)) ≤ n ∧ n < ((A + 1) * (2 * 2 ^ i)) * ((A + 1) * (2 * 2 ^ i))) ∧ Below w.heap.size w wr) := hR
      have HT : Hid (T = (2 * A + 1) * 2 ^ i) := hT
      have HSb : Hid (∀ (W : World) (bz' : Nat), Slot W bz' → BigAt W b ((A * (2 * 2 ^ i) : Nat) : Int) → Calls Tryz.prog 89 #[.pointer (some ⟨bz', 0, none⟩), .pointer (some ⟨b, 0, none⟩), .int .i64 (i : Int), .int .u64 1] W fun e w' => e = .returned (.pointer (some ⟨bz', 0, none⟩)) ∧ BigAt w' bz' (T : Int) ∧ Upd bz' W w') := fun W bz' h1 h2 => by
        rw [hT]; exact SetBit_small bz' b A i W h1 h2 (by omega) hA2
      have hge : decide ((0 : Int) ≤ (i : Int)) = true := decide_eq_true (by omega)
      have hii : ((i + 1 : Nat) : Int) - 1 = (i : Int) := by omega
      rw [hii]
      clear hR HR hT hA2 hAp hp16 hpe
      go_wp2_with fail
      have ka := (Below.refl wr.heap.size wr).alloc (Nat.le_refl _) (.cells #[.bool false, .slice none 0 0] 48)
      refine (HSb.out _ wr.heap.size (slot_new wr _ _) (HR2.out.1.below ka (Nat.le_refl _))).mono ?_
      rintro e w3 ⟨rfl, hb3, hu3⟩
      have k3 : Below wr.heap.size wr w3 := ka.trans (hu3.below (by simp) (Nat.le_refl _))
      have HB3 : Hid (BigAt w3 wr.heap.size (T : Int)) := hb3
      have HK3 : Hid (Below wr.heap.size wr w3) := k3
      have z3 : wr.heap.size < w3.heap.size := hb3.lt
      clear hb3 hu3 ka k3
      go_wp2_with fail
      have ka := (Below.refl w3.heap.size w3).alloc (Nat.le_refl _) (.cells #[.bool false, .slice none 0 0] 48)
      refine (Mul_any w3.heap.size wr.heap.size wr.heap.size (T : Int) (T : Int) 1 1 _ (slot_new w3 _ _) (HB3.out.below ka (Nat.le_refl _)) (HB3.out.below ka (Nat.le_refl _)) (by rw [pw_one, Int.natAbs_natCast]; omega) (by rw [pw_one, Int.natAbs_natCast]; omega) (by omega) (by omega)).mono ?_
      rintro e w4 ⟨rfl, hb4, hu4⟩
      have k4 : Below w3.heap.size w3 w4 := ka.trans (hu4.below (by simp) (Nat.le_refl _))
      obtain ⟨TT, hTT⟩ : ∃ TT : Nat, TT = T * T := ⟨_, rfl⟩
      have hTTI : (T : Int) * (T : Int) = (TT : Int) := by rw [hTT, Int.natCast_mul]
      rw [hTTI] at hb4
      have hTTb : TT ≤ 40000000000 := by
        rw [hTT]; have := Nat.mul_le_mul (Nat.le_of_lt hTb) (Nat.le_of_lt hTb); omega
      have HTT : Hid (TT = T * T) := hTT
      have k34 : Below wr.heap.size wr w4 := HK3.out.trans (k4.mono (by omega))
      have HB4 : Hid (BigAt w4 wr.heap.size (T : Int)) := HB3.out.below k4 (Nat.le_refl _)
      have HK4 : Hid (Below wr.heap.size wr w4) := k34
      have HR4 : Hid (BigAt w4 b ((A * (2 * 2 ^ i) : Nat) : Int)) := HR2.out.1.below k34 (Nat.le_refl _)
      have HM4 : Hid (BigAt w4 w3.heap.size (TT : Int)) := hb4
      have HX4 : Hid (BigAt w4 bx (n : Int)) := HX.out.below (HR2.out.2.2.trans (k34.mono HR2.out.2.2.size)) (Nat.le_refl _)
      clear hb4 hu4 ka k4 k34 HB3 HK3 hTT hTTI HSb
      go_wp2_with fail
      refine (Cmp_any w3.heap.size bx (TT : Int) (n : Int) 2 1 w4 HM4.out HX4.out (by rw [pw_two, Int.natAbs_natCast]; omega) (by rw [pw_one, Int.natAbs_natCast]; omega) (by omega) (by omega)).mono ?_
      rintro e w5 ⟨rfl, k, hw5⟩
      rw [hw5]
      clear hw5 w5
      by_cases hc : TT ≤ n
      · have hcz : decide (cmpZ (TT : Int) (n : Int) ≤ 0) = true := by
          refine decide_eq_true ?_
          unfold cmpZ; split <;> (try split) <;> omega
        generalize cmpZ (TT : Int) (n : Int) = cz at hcz ⊢
        go_wp2
        go_roundw
        case rel =>
          refine ⟨i, wr.heap.size, 2 * A + 1, rfl, by go_num, by omega, ?_, ⟨?_, ?_⟩, ?_⟩
          · rw [← HT.out]; exact HB4.out.drewN
          · rw [← HT.out, ← HTT.out]; exact hc
          · have := HR2.out.2.1.2
            have e : (A + 1) * (2 * 2 ^ i) = (2 * A + 1 + 1) * 2 ^ i := by
              rw [← Nat.mul_assoc]; congr 1; omega
            rw [← e]; exact this
          · exact below_drewN' (HR2.out.2.2.trans (HK4.out.mono HR2.out.2.2.size))
        case measure => simp [intOf]
      · have hcz : decide (cmpZ (TT : Int) (n : Int) ≤ 0) = false := by
          refine decide_eq_false ?_
          unfold cmpZ; split <;> (try split) <;> omega
        generalize cmpZ (TT : Int) (n : Int) = cz at hcz ⊢
        go_wp2
        go_roundw
        case rel =>
          have e : A * (2 * 2 ^ i) = (2 * A) * 2 ^ i := by rw [← Nat.mul_assoc, Nat.mul_comm A 2]
          refine ⟨i, b, 2 * A, rfl, by go_num, by omega, ?_, ⟨?_, ?_⟩, ?_⟩
          · rw [← e]; exact HR4.out.drewN
          · rw [← e]; exact HR2.out.2.1.1
          · rw [← HT.out, ← HTT.out]; omega
          · exact below_drewN' (HR2.out.2.2.trans (HK4.out.mono HR2.out.2.2.size))
        case measure => simp [intOf]

end Go.Proofs.YtpgedkdaflgfoafGreatDoor
end

section
/- The contract of Exp, with a modulus and without one. -/
set_option linter.unusedSimpArgs false
set_option linter.unusedVariables false
set_option maxRecDepth 100000
namespace Go.Proofs.YtpgedkdaflgfoafGreatDoor
open Go.RowKit

theorem half_bit (Y i : Nat) : Y / 2 ^ i = 2 * (Y / 2 ^ (i + 1)) + Y / 2 ^ i % 2 := by
  rw [Nat.pow_succ, ← Nat.div_div_eq_div_mul]; omega

theorem ipow_add (x : Int) (m n : Nat) : x ^ (m + n) = x ^ m * x ^ n := by
  induction n with
  | zero => simp
  | succ k ih => rw [← Nat.add_assoc, Int.pow_succ, ih, Int.pow_succ, Int.mul_assoc]

theorem exp_sq (x d : Int) (k : Nat) : (x ^ k % d) * (x ^ k % d) % d = x ^ (2 * k) % d := by
  rw [← Int.mul_emod, ← ipow_add, Nat.two_mul]
theorem exp_one (x d : Int) (k : Nat) : (x ^ k % d) * x % d = x ^ (k + 1) % d := by
  rw [Int.mul_emod, Int.emod_emod, ← Int.mul_emod, Int.pow_succ]

theorem emod_lt_pw (t : Int) {d md : Nat} (h0 : 0 < d) (h : d < pw md) : (t % (d : Int)).natAbs < pw md := by
  have h1 := Int.emod_nonneg t (show (d : Int) ≠ 0 by omega)
  have h2 := Int.emod_lt_of_pos t (show 0 < (d : Int) by omega)
  omega
theorem mulN_lt {x y : Int} {m n : Nat} (hx : x.natAbs < pw m) (hy : y.natAbs < pw n) : (x * y).natAbs < pw (m + n) := by
  rw [Int.natAbs_mul, pw_add]; exact Nat.mul_lt_mul'' hx hy

set_option maxHeartbeats 2000000 in
theorem Exp_mod (bz bx by' bm : Nat) (x : Int) (Y d mx my md : Nat) (w : World) (hz : Slot w bz) (hx : BigAt w bx x) (hy : BigAt w by' (Y : Int)) (hm : BigAt w bm (d : Int)) (hd0 : 0 < d) (lx : x.natAbs < pw mx) (ly : Y < pw my) (ld : d < pw md) (lx' : mx ≤ 40000000) (ly' : my ≤ 40000000) (ld' : md ≤ 40000000) :
    Calls Tryz.prog 86 #[.pointer (some ⟨bz, 0, none⟩), .pointer (some ⟨bx, 0, none⟩), .pointer (some ⟨by', 0, none⟩), .pointer (some ⟨bm, 0, none⟩)] w fun e w' => e = .returned (.pointer (some ⟨bz, 0, none⟩)) ∧ BigAt w' bz (x ^ Y % (d : Int)) ∧ Upd bz w w' := by
  obtain ⟨ya, yl, yc, cy0, cy1, ny, _⟩ := hy.open
  obtain ⟨ma, ml, mc, cm0, cm1, nm, hml⟩ := hm.open
  have zlt := hz.lt
  have mlt := hm.lt
  have ylt := hy.lt
  have t1 : 0 < ml := hml.2 (by omega)
  have HZ : Hid (Slot w bz) := hz
  have HX : Hid (BigAt w bx x) := hx
  have HY : Hid (BigAt w by' (Y : Int)) := hy
  have HM : Hid (BigAt w bm (d : Int)) := hm
  have HNY : Hid (NS w (.slice ya yl yc) Y) := by have h := ny; show NS _ _ _; simpa using h
  have LX : Hid (x.natAbs < pw mx) := lx
  have LY : Hid (Y < pw my) := ly
  have LD : Hid (d < pw md) := ld
  rw [decide_eq_false (show ¬ (Y : Int) < 0 by omega)] at cy0
  clear hz hx hy hm ny nm hml lx ly ld cm0
  go_enter Tryz.func86, Tryz.ntmps86
  go_wp2_with fail
  refine (Set_any w.heap.size bx x mx _ (slot_new w _ _) (HX.out.below (Below.alloc_self' w _) (Nat.le_refl _)) LX.out (by omega)).mono ?_
  rintro e w1 ⟨rfl, h1, u1⟩
  have k1 : Below w.heap.size w w1 := (Below.alloc_self' w _).trans (u1.below (by simp) (Nat.le_refl _))
  have z1 : w.heap.size < w1.heap.size := h1.lt
  have dy0 : w1.cell? ⟨by', 0, none⟩ = some (.bool false) := (k1.cell (p := ⟨by', 0, none⟩) ylt).trans cy0
  have dy1 : w1.cell? ⟨by', 1, none⟩ = some (.slice ya yl yc) := (k1.cell (p := ⟨by', 1, none⟩) ylt).trans cy1
  have HB1 : Hid (BigAt w1 w.heap.size x) := h1
  have HK1 : Hid (Below w.heap.size w w1) := k1
  clear h1 u1 k1 cy0 cy1
  go_wp2_with fail
  refine (NewInt_any 1 _ (by omega) (by omega)).mono ?_
  rintro e w2 ⟨br, rfl, p2, h2, k2⟩
  have z2 := k2.size
  have lbr : br < w2.heap.size := h2.lt
  have ey1 : w2.cell? ⟨by', 1, none⟩ = some (.slice ya yl yc) := (k2.cell (p := ⟨by', 1, none⟩) (show by' < w1.heap.size by omega)).trans dy1
  have HR2 : Hid (BigAt w2 br 1) := h2
  have HB2 : Hid (BigAt w2 w.heap.size x) := HB1.out.below k2 (Nat.le_refl _)
  have HK2 : Hid (Below w.heap.size w w2) := HK1.out.trans (k2.mono (by omega))
  have HN2 : Hid (NS w2 (.slice ya yl yc) Y) := HNY.out.below HK2.out (Nat.le_refl _)
  clear h2 k2 HB1 HK1 dy0 dy1
  go_wp2_with fail
  refine (twin_any _ Y my _ HN2.out LY.out (by omega)).mono ?_
  rintro e w3 ⟨ev, rfl, h3, k3⟩
  obtain ⟨ea, el, ec, rfl, _⟩ := h3.shape
  have z3 := k3.size
  have HE3 : Hid (NS w3 (.slice ea el ec) Y) := h3
  have HR3 : Hid (BigAt w3 br 1) := HR2.out.below k3 (Nat.le_refl _)
  have HB3 : Hid (BigAt w3 w.heap.size x) := HB2.out.below k3 (Nat.le_refl _)
  have HK3 : Hid (Below w.heap.size w w3) := HK2.out.trans (k3.mono (by omega))
  have HM3 : Hid (BigAt w3 bm (d : Int)) := HM.out.below HK3.out (Nat.le_refl _)
  clear h3 k3 HR2 HB2 HK2 HN2 ey1
  go_wp2_with fail
  refine (Abs_any w3.heap.size bm (d : Int) md _ (slot_new w3 _ _) (HM3.out.below (Below.alloc_self' w3 _) (Nat.le_refl _)) (by show (d : Int).natAbs < pw md; rw [Int.natAbs_natCast]; exact LD.out) (by omega)).mono ?_
  rw [show (((d : Int).natAbs : Nat) : Int) = (d : Int) by omega]
  rintro e w4 ⟨rfl, h4, u4⟩
  have k4 : Below w3.heap.size w3 w4 := (Below.alloc_self' w3 _).trans (u4.below (by simp) (Nat.le_refl _))
  have z4 : w3.heap.size < w4.heap.size := h4.lt
  have HD4 : Hid (BigAt w4 w3.heap.size (d : Int)) := h4
  have HE4 : Hid (NS w4 (.slice ea el ec) Y) := HE3.out.below k4 (Nat.le_refl _)
  have HR4 : Hid (BigAt w4 br 1) := HR3.out.below k4 (Nat.le_refl _)
  have HB4 : Hid (BigAt w4 w.heap.size x) := HB3.out.below k4 (Nat.le_refl _)
  have HK4 : Hid (Below w.heap.size w w4) := HK3.out.trans (k4.mono (by omega))
  clear h4 u4 k4 HE3 HR3 HB3 HK3 HM3
  go_wp2_with fail
  refine (Mod_any br br w3.heap.size 1 (d : Int) 1 md _ HR4.out.slot HR4.out HD4.out (by omega) (by decide) (by show (d : Int).natAbs < pw md; rw [Int.natAbs_natCast]; exact LD.out) (by omega) (by omega)).mono ?_
  rintro e w5 ⟨rfl, h5, u5⟩
  have z5 := u5.size
  have HR5 : Hid (BigAt w5 br ((1 : Int) % (d : Int))) := h5
  have HD5 : Hid (BigAt w5 w3.heap.size (d : Int)) := HD4.out.upd u5 HR4.out.slot (by omega)
  have HE5 : Hid (NS w5 (.slice ea el ec) Y) := HE4.out.upd u5 HR4.out.slot
  have HB5 : Hid (BigAt w5 w.heap.size x) := HB4.out.upd u5 HR4.out.slot (by omega)
  have HK5 : Hid (Below w.heap.size w w5) := HK4.out.trans (u5.below (by omega) (by omega))
  clear h5 u5 HD4 HE4 HR4 HB4 HK4
  go_wp2_with fail
  refine (length_any _ Y my _ HE5.out LY.out (by omega)).mono ?_
  rintro e w6 ⟨L, rfl, hL, hLb, rfl⟩
  have HL : Hid (Y < 2 ^ L) := hL
  clear hL
  go_wp2_with fail
  go_loopw [14] (fun iv wx => ∃ k : Nat, k ≤ L ∧ iv = .int .i64 ((k : Int) - 1) ∧ Hid (BigAt wx br (x ^ (Y / 2 ^ k) % (d : Int)) ∧ BigAt wx w.heap.size x ∧ BigAt wx w3.heap.size (d : Int) ∧ NS wx (.slice ea el ec) Y ∧ Below w.heap.size w wx ∧ w6.heap.size ≤ wx.heap.size)) (fun iv _ => (intOf iv + 1).toNat)
  case atStart =>
    refine ⟨L, Nat.le_refl _, by go_num, ?_, HB5.out, HD5.out, HE5.out, HK5.out, Nat.le_refl _⟩
    rw [Nat.div_eq_of_lt HL.out, Int.pow_zero]
    exact HR5.out
  case round =>
    clear HR5 HD5 HE5 HB5 HK5
    obtain ⟨k, hk, hiv, HR0⟩ := hrel
    have HR : Hid (BigAt wr br (x ^ (Y / 2 ^ k) % (d : Int))) := HR0.out.1
    have HB : Hid (BigAt wr w.heap.size x) := HR0.out.2.1
    have HD : Hid (BigAt wr w3.heap.size (d : Int)) := HR0.out.2.2.1
    have HE : Hid (NS wr (.slice ea el ec) Y) := HR0.out.2.2.2.1
    have HK : Hid (Below w.heap.size w wr) := HR0.out.2.2.2.2.1
    have zr : w6.heap.size ≤ wr.heap.size := HR0.out.2.2.2.2.2
    clear HR0
    by_cases h0 : k = 0
    · subst h0
      subst hiv
      have HR' : Hid (BigAt wr br (x ^ Y % (d : Int))) := by have h := HR.out; rw [Nat.pow_zero, Nat.div_one] at h; exact h
      clear HR
      go_wp2_with fail
      refine (Set_any bz br (x ^ Y % (d : Int)) md _ (HZ.out.below HK.out (Nat.le_refl _)) HR'.out (emod_lt_pw _ hd0 LD.out) (by omega)).mono ?_
      rintro e w7 ⟨rfl, h7, u7⟩
      go_wp2
      go_ret
      exact ⟨rfl, h7, Upd.then_below HK.out u7⟩
    · obtain ⟨j, rfl⟩ : ∃ j, k = j + 1 := ⟨k - 1, by omega⟩
      have hiv2 := hiv.trans (show Value.int .i64 (((j + 1 : Nat) : Int) - 1) = Value.int .i64 (j : Int) from by congr 1; omega)
      subst hiv2
      clear hiv
      obtain ⟨R, gR⟩ : ∃ R, R = x ^ (Y / 2 ^ (j + 1)) % (d : Int) := ⟨_, rfl⟩
      have lR : R.natAbs < pw md := by rw [gR]; exact emod_lt_pw _ hd0 LD.out
      have LR : Hid (R.natAbs < pw md) := lR
      have HR' : Hid (BigAt wr br R) := by rw [gR]; exact HR.out
      have HSQ : Hid (R * R % (d : Int) = x ^ (2 * (Y / 2 ^ (j + 1))) % (d : Int)) := by show _ = _; rw [gR, exp_sq]
      clear gR lR HR
      go_wp2_with fail
      refine (Mul_any br br br R R md md _ HR'.out.slot HR'.out HR'.out LR.out LR.out (by omega) (by omega)).mono ?_
      rintro e w7 ⟨rfl, h7, u7⟩
      have z7 := u7.size
      have HR7 : Hid (BigAt w7 br (R * R)) := h7
      have HB7 : Hid (BigAt w7 w.heap.size x) := HB.out.upd u7 HR'.out.slot (by omega)
      have HD7 : Hid (BigAt w7 w3.heap.size (d : Int)) := HD.out.upd u7 HR'.out.slot (by omega)
      have HE7 : Hid (NS w7 (.slice ea el ec) Y) := HE.out.upd u7 HR'.out.slot
      have HK7 : Hid (Below w.heap.size w w7) := HK.out.trans (u7.below (by omega) (by omega))
      clear h7 u7 HB HD HE HK HR'
      go_wp2_with fail
      refine (Mod_any br br w3.heap.size (R * R) (d : Int) (md + md) md _ HR7.out.slot HR7.out HD7.out (by omega) (mulN_lt LR.out LR.out) (by show (d : Int).natAbs < pw md; rw [Int.natAbs_natCast]; exact LD.out) (by omega) (by omega)).mono ?_
      rw [HSQ.out]
      rintro e w8 ⟨rfl, h8, u8⟩
      have z8 := u8.size
      have HR8 : Hid (BigAt w8 br (x ^ (2 * (Y / 2 ^ (j + 1))) % (d : Int))) := h8
      have HB8 : Hid (BigAt w8 w.heap.size x) := HB7.out.upd u8 HR7.out.slot (by omega)
      have HD8 : Hid (BigAt w8 w3.heap.size (d : Int)) := HD7.out.upd u8 HR7.out.slot (by omega)
      have HE8 : Hid (NS w8 (.slice ea el ec) Y) := HE7.out.upd u8 HR7.out.slot
      have HK8 : Hid (Below w.heap.size w w8) := HK7.out.trans (u8.below (by omega) (by omega))
      clear h8 u8 HB7 HD7 HE7 HK7 HR7
      go_wp2_with fail
      refine (bit_any _ Y j my _ HE8.out LY.out (by omega) (by omega)).mono ?_
      have hhb := half_bit Y j
      rcases Nat.mod_two_eq_zero_or_one (Y / 2 ^ j) with hb | hb
      · rw [hb] at hhb
        have HR9 : Hid (BigAt w8 br (x ^ (Y / 2 ^ j) % (d : Int))) := by
          have h := HR8.out
          rw [show 2 * (Y / 2 ^ (j + 1)) = Y / 2 ^ j by omega] at h
          exact h
        rw [hb]
        clear hb hhb HR8
        rintro e w9 ⟨rfl, q9, rfl⟩
        go_wp2
        go_roundw
        case rel => exact ⟨j, by omega, rfl, HR9.out.drewN, HB8.out.drewN, HD8.out.drewN, HE8.out.drewN, below_drewN' HK8.out, (show w6.heap.size ≤ w8.heap.size by omega)⟩
        case measure => simp [intOf]
      · rw [hb] at hhb
        have HO : Hid (x ^ (2 * (Y / 2 ^ (j + 1))) % (d : Int) * x % (d : Int) = x ^ (Y / 2 ^ j) % (d : Int)) := by
          show _ = _
          rw [exp_one, show 2 * (Y / 2 ^ (j + 1)) + 1 = Y / 2 ^ j by omega]
        rw [hb]
        clear hb hhb
        obtain ⟨T, gT⟩ : ∃ T, T = x ^ (2 * (Y / 2 ^ (j + 1))) % (d : Int) := ⟨_, rfl⟩
        have LT : Hid (T.natAbs < pw md) := by rw [gT]; exact emod_lt_pw _ hd0 LD.out
        rw [← gT] at HO HR8
        clear gT
        rintro e w9 ⟨rfl, q9, hw9⟩
        have z9 : w8.heap.size ≤ w9.heap.size := by rw [hw9]; exact Nat.le_refl _
        have HR9 : Hid (BigAt w9 br T) := by rw [hw9]; exact HR8.out.drewN
        have HB9 : Hid (BigAt w9 w.heap.size x) := by rw [hw9]; exact HB8.out.drewN
        have HD9 : Hid (BigAt w9 w3.heap.size (d : Int)) := by rw [hw9]; exact HD8.out.drewN
        have HE9 : Hid (NS w9 (.slice ea el ec) Y) := by rw [hw9]; exact HE8.out.drewN
        have HK9 : Hid (Below w.heap.size w w9) := by rw [hw9]; exact below_drewN' HK8.out
        clear hw9 HR8 HB8 HD8 HE8 HK8
        go_wp2_with fail
        refine (Mul_any br br w.heap.size T x md mx _ HR9.out.slot HR9.out HB9.out LT.out LX.out (by omega) (by omega)).mono ?_
        rintro e w10 ⟨rfl, h10, u10⟩
        have z10 := u10.size
        have HR10 : Hid (BigAt w10 br (T * x)) := h10
        have HB10 : Hid (BigAt w10 w.heap.size x) := HB9.out.upd u10 HR9.out.slot (by omega)
        have HD10 : Hid (BigAt w10 w3.heap.size (d : Int)) := HD9.out.upd u10 HR9.out.slot (by omega)
        have HE10 : Hid (NS w10 (.slice ea el ec) Y) := HE9.out.upd u10 HR9.out.slot
        have HK10 : Hid (Below w.heap.size w w10) := HK9.out.trans (u10.below (by omega) (by omega))
        clear h10 u10 HB9 HD9 HE9 HK9 HR9
        go_wp2_with fail
        refine (Mod_any br br w3.heap.size (T * x) (d : Int) (md + mx) md _ HR10.out.slot HR10.out HD10.out (by omega) (mulN_lt LT.out LX.out) (by show (d : Int).natAbs < pw md; rw [Int.natAbs_natCast]; exact LD.out) (by omega) (by omega)).mono ?_
        rw [HO.out]
        rintro e w11 ⟨rfl, h11, u11⟩
        have z11 := u11.size
        have HB11 : Hid (BigAt w11 w.heap.size x) := HB10.out.upd u11 HR10.out.slot (by omega)
        have HD11 : Hid (BigAt w11 w3.heap.size (d : Int)) := HD10.out.upd u11 HR10.out.slot (by omega)
        have HE11 : Hid (NS w11 (.slice ea el ec) Y) := HE10.out.upd u11 HR10.out.slot
        have HK11 : Hid (Below w.heap.size w w11) := HK10.out.trans (u11.below (by omega) (by omega))
        have HR11 : Hid (BigAt w11 br (x ^ (Y / 2 ^ j) % (d : Int))) := h11
        clear h11 u11 HB10 HD10 HE10 HK10 HR10
        go_wp2
        go_roundw
        case rel => exact ⟨j, by omega, rfl, HR11.out, HB11.out, HD11.out, HE11.out, HK11.out, by omega⟩
        case measure => simp [intOf]

theorem ipow_lt {x : Int} {mx : Nat} (h : x.natAbs < pw mx) (k Y : Nat) (hk : k ≤ Y) : (x ^ k).natAbs < pw (mx * Y + 1) := by
  have h1 : ∀ k, (x ^ k).natAbs ≤ pw (mx * k) := by
    intro k
    induction k with
    | zero => simp [pw]
    | succ n ih =>
      rw [Int.pow_succ, Int.natAbs_mul, Nat.mul_succ, pw_add]
      exact Nat.mul_le_mul ih (Nat.le_of_lt h)
  have h2 := h1 k
  have h3 := pw_le (Nat.mul_le_mul_left mx hk)
  have h4 : pw (mx * Y + 1) = 4294967296 * pw (mx * Y) := rfl
  have h5 := pw_pos (mx * Y)
  omega

theorem exp_sq0 (x : Int) (k : Nat) : x ^ k * x ^ k = x ^ (2 * k) := by rw [← ipow_add, Nat.two_mul]

set_option maxHeartbeats 2000000 in
theorem Exp_nil (bz bx by' : Nat) (x : Int) (Y mx my : Nat) (w : World) (hz : Slot w bz) (hx : BigAt w bx x) (hy : BigAt w by' (Y : Int)) (lx : x.natAbs < pw mx) (ly : Y < pw my) (lx' : mx * Y + 1 ≤ 40000000) (lm : mx ≤ 40000000) (ly' : my ≤ 40000000) :
    Calls Tryz.prog 86 #[.pointer (some ⟨bz, 0, none⟩), .pointer (some ⟨bx, 0, none⟩), .pointer (some ⟨by', 0, none⟩), .pointer none] w fun e w' => e = .returned (.pointer (some ⟨bz, 0, none⟩)) ∧ BigAt w' bz (x ^ Y) ∧ Upd bz w w' := by
  obtain ⟨ya, yl, yc, cy0, cy1, ny, _⟩ := hy.open
  have zlt := hz.lt
  have ylt := hy.lt
  have HZ : Hid (Slot w bz) := hz
  have HX : Hid (BigAt w bx x) := hx
  have HNY : Hid (NS w (.slice ya yl yc) Y) := by have h := ny; show NS _ _ _; simpa using h
  have LX : Hid (x.natAbs < pw mx) := lx
  have LY : Hid (Y < pw my) := ly
  have LP : Hid (∀ k, k ≤ Y → (x ^ k).natAbs < pw (mx * Y + 1)) := fun k hk => ipow_lt lx k Y hk
  obtain ⟨B, gB⟩ : ∃ B, B = mx * Y + 1 := ⟨_, rfl⟩
  rw [← gB] at LP lx'
  rw [decide_eq_false (show ¬ (Y : Int) < 0 by omega)] at cy0
  clear hz hx hy ny lx ly gB
  go_enter Tryz.func86, Tryz.ntmps86
  go_wp2_with fail
  refine (Set_any w.heap.size bx x mx _ (slot_new w _ _) (HX.out.below (Below.alloc_self' w _) (Nat.le_refl _)) LX.out (by omega)).mono ?_
  rintro e w1 ⟨rfl, h1, u1⟩
  have k1 : Below w.heap.size w w1 := (Below.alloc_self' w _).trans (u1.below (by simp) (Nat.le_refl _))
  have z1 : w.heap.size < w1.heap.size := h1.lt
  have dy0 : w1.cell? ⟨by', 0, none⟩ = some (.bool false) := (k1.cell (p := ⟨by', 0, none⟩) ylt).trans cy0
  have dy1 : w1.cell? ⟨by', 1, none⟩ = some (.slice ya yl yc) := (k1.cell (p := ⟨by', 1, none⟩) ylt).trans cy1
  have HB1 : Hid (BigAt w1 w.heap.size x) := h1
  have HK1 : Hid (Below w.heap.size w w1) := k1
  clear h1 u1 k1 cy0 cy1
  go_wp2_with fail
  refine (NewInt_any 1 _ (by omega) (by omega)).mono ?_
  rintro e w2 ⟨br, rfl, p2, h2, k2⟩
  have z2 := k2.size
  have lbr : br < w2.heap.size := h2.lt
  have ey1 : w2.cell? ⟨by', 1, none⟩ = some (.slice ya yl yc) := (k2.cell (p := ⟨by', 1, none⟩) (show by' < w1.heap.size by omega)).trans dy1
  have HR2 : Hid (BigAt w2 br 1) := h2
  have HB2 : Hid (BigAt w2 w.heap.size x) := HB1.out.below k2 (Nat.le_refl _)
  have HK2 : Hid (Below w.heap.size w w2) := HK1.out.trans (k2.mono (by omega))
  have HN2 : Hid (NS w2 (.slice ya yl yc) Y) := HNY.out.below HK2.out (Nat.le_refl _)
  clear h2 k2 HB1 HK1 dy0 dy1
  go_wp2_with fail
  refine (twin_any _ Y my _ HN2.out LY.out (by omega)).mono ?_
  rintro e w3 ⟨ev, rfl, h3, k3⟩
  obtain ⟨ea, el, ec, rfl, _⟩ := h3.shape
  have z3 := k3.size
  have HE5 : Hid (NS w3 (.slice ea el ec) Y) := h3
  have HR5 : Hid (BigAt w3 br 1) := HR2.out.below k3 (Nat.le_refl _)
  have HB5 : Hid (BigAt w3 w.heap.size x) := HB2.out.below k3 (Nat.le_refl _)
  have HK5 : Hid (Below w.heap.size w w3) := HK2.out.trans (k3.mono (by omega))
  clear h3 k3 HR2 HB2 HK2 HN2 ey1
  go_wp2_with fail
  refine (length_any _ Y my _ HE5.out LY.out (by omega)).mono ?_
  rintro e w6 ⟨L, rfl, hL, hLb, rfl⟩
  have HL : Hid (Y < 2 ^ L) := hL
  clear hL
  go_wp2_with fail
  go_loopw [14] (fun iv wx => ∃ k : Nat, k ≤ L ∧ iv = .int .i64 ((k : Int) - 1) ∧ Hid (BigAt wx br (x ^ (Y / 2 ^ k)) ∧ BigAt wx w.heap.size x ∧ NS wx (.slice ea el ec) Y ∧ Below w.heap.size w wx ∧ w6.heap.size ≤ wx.heap.size)) (fun iv _ => (intOf iv + 1).toNat)
  case atStart =>
    refine ⟨L, Nat.le_refl _, by go_num, ?_, HB5.out, HE5.out, HK5.out, Nat.le_refl _⟩
    rw [Nat.div_eq_of_lt HL.out, Int.pow_zero]
    exact HR5.out
  case round =>
    clear HR5 HE5 HB5 HK5
    obtain ⟨k, hk, hiv, HR0⟩ := hrel
    have HR : Hid (BigAt wr br (x ^ (Y / 2 ^ k))) := HR0.out.1
    have HB : Hid (BigAt wr w.heap.size x) := HR0.out.2.1
    have HE : Hid (NS wr (.slice ea el ec) Y) := HR0.out.2.2.1
    have HK : Hid (Below w.heap.size w wr) := HR0.out.2.2.2.1
    have zr : w6.heap.size ≤ wr.heap.size := HR0.out.2.2.2.2
    clear HR0
    by_cases h0 : k = 0
    · subst h0
      subst hiv
      have HR' : Hid (BigAt wr br (x ^ Y)) := by have h := HR.out; rw [Nat.pow_zero, Nat.div_one] at h; exact h
      clear HR
      go_wp2_with fail
      refine (Set_any bz br (x ^ Y) B _ (HZ.out.below HK.out (Nat.le_refl _)) HR'.out (LP.out Y (Nat.le_refl _)) (by omega)).mono ?_
      rintro e w7 ⟨rfl, h7, u7⟩
      go_wp2
      go_ret
      exact ⟨rfl, h7, Upd.then_below HK.out u7⟩
    · obtain ⟨j, rfl⟩ : ∃ j, k = j + 1 := ⟨k - 1, by omega⟩
      have hiv2 := hiv.trans (show Value.int .i64 (((j + 1 : Nat) : Int) - 1) = Value.int .i64 (j : Int) from by congr 1; omega)
      subst hiv2
      clear hiv
      have hle1 : Y / 2 ^ j ≤ Y := Nat.div_le_self ..
      have hhb := half_bit Y j
      have LR : Hid ((x ^ (Y / 2 ^ (j + 1))).natAbs < pw B) := LP.out _ (Nat.div_le_self ..)
      have LT : Hid ((x ^ (2 * (Y / 2 ^ (j + 1)))).natAbs < pw B) := LP.out _ (by omega)
      have HSQ : Hid (x ^ (Y / 2 ^ (j + 1)) * x ^ (Y / 2 ^ (j + 1)) = x ^ (2 * (Y / 2 ^ (j + 1)))) := exp_sq0 x _
      have HON : Hid (x ^ (2 * (Y / 2 ^ (j + 1))) * x = x ^ (2 * (Y / 2 ^ (j + 1)) + 1)) := (Int.pow_succ ..).symm
      have HHB : Hid (Y / 2 ^ j = 2 * (Y / 2 ^ (j + 1)) + Y / 2 ^ j % 2) := hhb
      clear hhb hle1
      go_wp2_with fail
      refine (Mul_any br br br _ _ B B _ HR.out.slot HR.out HR.out LR.out LR.out (by omega) (by omega)).mono ?_
      rw [HSQ.out]
      rintro e w8 ⟨rfl, h8, u8⟩
      have z8 := u8.size
      have HR8 : Hid (BigAt w8 br (x ^ (2 * (Y / 2 ^ (j + 1))))) := h8
      have HB8 : Hid (BigAt w8 w.heap.size x) := HB.out.upd u8 HR.out.slot (by omega)
      have HE8 : Hid (NS w8 (.slice ea el ec) Y) := HE.out.upd u8 HR.out.slot
      have HK8 : Hid (Below w.heap.size w w8) := HK.out.trans (u8.below (by omega) (by omega))
      clear h8 u8 HB HE HK HR
      go_wp2_with fail
      refine (bit_any _ Y j my _ HE8.out LY.out (by omega) (by omega)).mono ?_
      rcases Nat.mod_two_eq_zero_or_one (Y / 2 ^ j) with hb | hb
      · have HR9 : Hid (BigAt w8 br (x ^ (Y / 2 ^ j))) := by
          have h := HR8.out
          have h2 := HHB.out
          rw [hb] at h2
          rw [show 2 * (Y / 2 ^ (j + 1)) = Y / 2 ^ j by omega] at h
          exact h
        rw [hb]
        clear hb HR8
        rintro e w9 ⟨rfl, q9, rfl⟩
        go_wp2
        go_roundw
        case rel => exact ⟨j, by omega, rfl, HR9.out.drewN, HB8.out.drewN, HE8.out.drewN, below_drewN' HK8.out, (show w6.heap.size ≤ w8.heap.size by omega)⟩
        case measure => simp [intOf]
      · have HO : Hid (x ^ (2 * (Y / 2 ^ (j + 1))) * x = x ^ (Y / 2 ^ j)) := by
          have h2 := HHB.out
          rw [hb] at h2
          show _ = _
          rw [HON.out, ← h2]
        rw [hb]
        clear hb
        rintro e w9 ⟨rfl, q9, hw9⟩
        have z9 : w8.heap.size ≤ w9.heap.size := by rw [hw9]; exact Nat.le_refl _
        have HR9 : Hid (BigAt w9 br (x ^ (2 * (Y / 2 ^ (j + 1))))) := by rw [hw9]; exact HR8.out.drewN
        have HB9 : Hid (BigAt w9 w.heap.size x) := by rw [hw9]; exact HB8.out.drewN
        have HE9 : Hid (NS w9 (.slice ea el ec) Y) := by rw [hw9]; exact HE8.out.drewN
        have HK9 : Hid (Below w.heap.size w w9) := by rw [hw9]; exact below_drewN' HK8.out
        clear hw9 HR8 HB8 HE8 HK8
        go_wp2_with fail
        refine (Mul_any br br w.heap.size _ x B mx _ HR9.out.slot HR9.out HB9.out LT.out LX.out (by omega) (by omega)).mono ?_
        rw [HO.out]
        rintro e w10 ⟨rfl, h10, u10⟩
        have z10 := u10.size
        have HR10 : Hid (BigAt w10 br (x ^ (Y / 2 ^ j))) := h10
        have HB10 : Hid (BigAt w10 w.heap.size x) := HB9.out.upd u10 HR9.out.slot (by omega)
        have HE10 : Hid (NS w10 (.slice ea el ec) Y) := HE9.out.upd u10 HR9.out.slot
        have HK10 : Hid (Below w.heap.size w w10) := HK9.out.trans (u10.below (by omega) (by omega))
        clear h10 u10 HB9 HE9 HK9 HR9
        go_wp2
        go_roundw
        case rel => exact ⟨j, by omega, rfl, HR10.out, HB10.out, HE10.out, HK10.out, by omega⟩
        case measure => simp [intOf]

end Go.Proofs.YtpgedkdaflgfoafGreatDoor
end

section
/- Numbers by limbs of nine decimal digits, and their texts: plain facts. -/
set_option linter.unusedSimpArgs false
set_option linter.unusedVariables false
set_option maxRecDepth 100000
namespace Go.Proofs.YtpgedkdaflgfoafGreatDoor.LgM
/-- What one limb is below. -/
abbrev Bs : Nat := 1000000000
/-- The lowest k limbs of n. -/
def dgl (k n : Nat) : List Nat := (List.range k).map (fun j => n / Bs ^ j % Bs)
theorem dgl_len (k n : Nat) : (dgl k n).length = k := by simp [dgl]
theorem dgl_succ (k n : Nat) : dgl (k + 1) n = dgl k n ++ [n / Bs ^ k % Bs] := by simp [dgl, List.range_succ]
theorem dgl_get (k n i : Nat) (h : i < k) : (dgl k n)[i]? = some (n / Bs ^ i % Bs) := by simp [dgl, h]
theorem dgl_lt (k n x : Nat) (h : x ∈ dgl k n) : x < Bs := by
  simp [dgl] at h; obtain ⟨j, _, rfl⟩ := h; exact Nat.mod_lt _ (by decide)
theorem bs_pos (k : Nat) : 0 < Bs ^ k := Nat.pow_pos (by decide)
theorem pow_s (k : Nat) : Bs ^ (k + 1) = Bs ^ k * Bs := Nat.pow_succ ..
theorem div_s (n k : Nat) : n / Bs ^ (k + 1) = n / Bs ^ k / Bs := by rw [pow_s, Nat.div_div_eq_div_mul]
/-- n mod B^(k+1) -/
theorem mod_s (n k : Nat) : n % Bs ^ (k + 1) = n % Bs ^ k + Bs ^ k * (n / Bs ^ k % Bs) := by rw [pow_s, Nat.mod_mul]
theorem plus_step (x y k : Nat) : (x % Bs ^ k + y % Bs ^ k) / Bs ^ k + (x / Bs ^ k % Bs + y / Bs ^ k % Bs) = (x % Bs ^ (k+1) + y % Bs ^ (k+1)) / Bs ^ k := by
  rw [mod_s, mod_s]
  have e : x % Bs ^ k + Bs ^ k * (x / Bs ^ k % Bs) + (y % Bs ^ k + Bs ^ k * (y / Bs ^ k % Bs)) = (x % Bs ^ k + y % Bs ^ k) + Bs ^ k * (x / Bs ^ k % Bs + y / Bs ^ k % Bs) := by rw [Nat.mul_add]; omega
  rw [e, Nat.add_mul_div_left _ _ (bs_pos k)]
theorem add_div_mod (x y k : Nat) : (x + y) / Bs ^ k % Bs = (x % Bs ^ (k+1) + y % Bs ^ (k+1)) / Bs ^ k % Bs := by
  have h1 : ∀ z, z / Bs ^ k % Bs = z % Bs ^ (k + 1) / Bs ^ k := fun z => by rw [pow_s, Nat.mod_mul_right_div_self]
  rw [h1, h1 (x % Bs ^ (k+1) + y % Bs ^ (k+1)), ← Nat.add_mod]
theorem plus_carry (x y k : Nat) : (x % Bs ^ k + y % Bs ^ k) / Bs ^ k ≤ 1 := by
  have h1 := Nat.mod_lt x (bs_pos k)
  have h2 := Nat.mod_lt y (bs_pos k)
  have : (x % Bs ^ k + y % Bs ^ k) / Bs ^ k < 2 := by rw [Nat.div_lt_iff_lt_mul (bs_pos k)]; omega
  omega
theorem times_step (x t k : Nat) : x % Bs ^ k * t / Bs ^ k + x / Bs ^ k % Bs * t = x % Bs ^ (k+1) * t / Bs ^ k := by
  rw [mod_s, Nat.add_mul, Nat.mul_assoc, Nat.add_mul_div_left _ _ (bs_pos k)]
theorem mul_div_mod (x t k : Nat) : x * t / Bs ^ k % Bs = x % Bs ^ (k+1) * t / Bs ^ k % Bs := by
  have h1 : ∀ z, z / Bs ^ k % Bs = z % Bs ^ (k + 1) / Bs ^ k := fun z => by rw [pow_s, Nat.mod_mul_right_div_self]
  rw [h1, h1 (x % Bs ^ (k+1) * t), Nat.mod_mul_mod]
theorem times_carry (x t k : Nat) (ht : 0 < t) : x % Bs ^ k * t / Bs ^ k < t := by
  rw [Nat.div_lt_iff_lt_mul (bs_pos k), Nat.mul_comm]
  exact Nat.mul_lt_mul_of_pos_left (Nat.mod_lt x (bs_pos k)) ht
/-- k limbs are just those of n. -/
structure Nd (k n : Nat) : Prop where
  lt : n < Bs ^ k
  ge : k = 0 ∨ Bs ^ (k - 1) ≤ n
theorem Nd.limb {k n : Nat} (h : Nd k n) (i : Nat) (hi : k ≤ i) : n / Bs ^ i % Bs = 0 := by
  have := Nat.pow_le_pow_right (show 0 < Bs by decide) hi
  rw [Nat.div_eq_of_lt (Nat.lt_of_lt_of_le h.lt this)]; rfl
theorem Nd.le {k n m : Nat} (h : Nd k n) (hm : n < Bs ^ m) : k ≤ m := by
  rcases h.ge with h1 | h1
  · omega
  · rcases Nat.lt_or_ge m k with h2 | h2
    · have := Nat.pow_le_pow_right (show 0 < Bs by decide) (show m ≤ k - 1 by omega)
      omega
    · exact h2
theorem Nd.mod {k n i : Nat} (h : Nd k n) (hi : k ≤ i) : n % Bs ^ i = n :=
  Nat.mod_eq_of_lt (Nat.lt_of_lt_of_le h.lt (Nat.pow_le_pow_right (by decide) hi))
theorem Nd.zero : Nd 0 0 := ⟨by decide, .inl rfl⟩
theorem Nd.mono {k n m : Nat} (h : Nd k n) (hm : n ≤ m) : k = 0 ∨ Bs ^ (k - 1) ≤ m := by
  rcases h.ge with h1 | h1
  · exact .inl h1
  · exact .inr (by omega)
theorem lim_le {a : Nat} (h : a < Bs) : a ≤ 999999999 := by unfold Bs at h; omega
open Go
/-- The lowest k decimal digits of r. -/
def pk : Nat → Nat → List UInt8
  | 0, _ => []
  | k + 1, r => pk k (r / 10) ++ [UInt8.ofNat (48 + r % 10)]
theorem pk_len (k r : Nat) : (pk k r).length = k := by
  induction k generalizing r with
  | zero => rfl
  | succ k ih => simp [pk, ih]
theorem dec_ge {u : Nat} (h : ¬ u < 10) : Lib.decDigits u = Lib.decDigits (u / 10) ++ [UInt8.ofNat (48 + u % 10)] := by
  rw [Lib.decDigits, dif_neg h]
theorem dec_lt {u : Nat} (h : u < 10) : Lib.decDigits u = [UInt8.ofNat (48 + u)] := by
  rw [Lib.decDigits, dif_pos h]
theorem dec_join (k q r : Nat) (hq : 0 < q) (hr : r < 10 ^ k) : Lib.decDigits (q * 10 ^ k + r) = Lib.decDigits q ++ pk k r := by
  induction k generalizing r with
  | zero => have : r = 0 := by simpa using hr
            subst this; simp [pk]
  | succ k ih =>
    have h1 : 10 ≤ q * 10 ^ (k + 1) + r := by
      have h2 : 1 * 10 ≤ q * 10 ^ (k + 1) := Nat.mul_le_mul hq (by rw [Nat.pow_succ]; have := Nat.pow_pos (n := k) (show 0 < 10 by decide); omega)
      omega
    have e : q * 10 ^ (k + 1) + r = (q * 10 ^ k) * 10 + r := by rw [Nat.pow_succ, Nat.mul_assoc]
    have e1 : (q * 10 ^ (k + 1) + r) / 10 = q * 10 ^ k + r / 10 := by rw [e]; omega
    have e2 : (q * 10 ^ (k + 1) + r) % 10 = r % 10 := by rw [e]; omega
    rw [dec_ge (by omega), e1, e2, ih (r / 10) (by rw [Nat.pow_succ] at hr; omega)]
    simp [pk]
theorem pk_zero (k : Nat) : pk k 0 = List.replicate k 48 := by
  induction k with
  | zero => rfl
  | succ k ih => simp only [pk]; rw [show (0 : Nat) / 10 = 0 from rfl, ih]; rw [List.replicate_succ']; rfl
theorem pk_pad (k r : Nat) (hk : 1 ≤ k) (hr : r < 10 ^ k) : pk k r = List.replicate (k - (Lib.decDigits r).length) 48 ++ Lib.decDigits r ∧ (Lib.decDigits r).length ≤ k := by
  induction k generalizing r with
  | zero => omega
  | succ k ih =>
    by_cases h : r < 10
    · rw [dec_lt h]
      have e : r / 10 = 0 := by omega
      refine ⟨?_, by simp⟩
      simp only [pk, e, pk_zero]
      rw [Nat.mod_eq_of_lt h]; simp
    · have hk1 : 1 ≤ k := by
        rcases k with _ | k
        · simp at hr; omega
        · omega
      obtain ⟨h1, h2⟩ := ih (r / 10) hk1 (by rw [Nat.pow_succ] at hr; omega)
      rw [dec_ge h]
      refine ⟨?_, by simp; omega⟩
      simp only [pk, h1, List.length_append, List.length_cons, List.length_nil]
      rw [show k + 1 - ((Lib.decDigits (r / 10)).length + (0 + 1)) = k - (Lib.decDigits (r / 10)).length by omega]
      simp
/-- The text of the highest limbs, from the i-th on. -/
theorem dec_limb (n i : Nat) (h : Bs ^ (i + 1) ≤ n) : Lib.decDigits (n / Bs ^ i) = Lib.decDigits (n / Bs ^ (i + 1)) ++ (List.replicate (9 - (Lib.decDigits (n / Bs ^ i % Bs)).length) 48 ++ Lib.decDigits (n / Bs ^ i % Bs)) := by
  have hp : 0 < Bs ^ i := Nat.pow_pos (by decide)
  have e : n / Bs ^ (i + 1) = n / Bs ^ i / Bs := by rw [Nat.pow_succ, Nat.div_div_eq_div_mul]
  have hm : n / Bs ^ i % Bs < Bs := Nat.mod_lt _ (by decide)
  have h9 : Bs = 10 ^ 9 := by decide
  rw [← (pk_pad 9 (n / Bs ^ i % Bs) (by decide) (by rw [← h9]; exact hm)).1, ← dec_join 9 _ _ ?_ (by rw [← h9]; exact hm), ← h9, e, Nat.mul_comm, Nat.div_add_mod]
  exact Nat.div_pos h (Nat.pow_pos (by decide))
/-- What a text of digits stands for, behind a. -/
def rd (a : Nat) (l : List UInt8) : Nat := l.foldl (fun a c => a * 10 + (c.toNat - 48)) a
theorem rd_dec (n : Nat) : rd 0 (Lib.decDigits n) = n := by
  induction n using Nat.strongRecOn with
  | _ n ih =>
    have hc : ∀ x, x < 10 → (UInt8.ofNat (48 + x)).toNat - 48 = x := fun x hx => by simp [UInt8.toNat_ofNat']; omega
    by_cases h : n < 10
    · rw [dec_lt h]; simp only [rd, List.foldl_cons, List.foldl_nil]; rw [hc n h]; omega
    · rw [dec_ge h, rd, List.foldl_append]
      show (rd 0 (Lib.decDigits (n / 10))) * 10 + ((UInt8.ofNat (48 + n % 10)).toNat - 48) = n
      rw [ih (n / 10) (by omega), hc _ (by omega)]; omega
theorem dec_digit (n : Nat) : ∀ c ∈ Lib.decDigits n, 48 ≤ c.toNat ∧ c.toNat ≤ 57 := by
  induction n using Nat.strongRecOn with
  | _ n ih =>
    have hc : ∀ x, x < 10 → 48 ≤ (UInt8.ofNat (48 + x)).toNat ∧ (UInt8.ofNat (48 + x)).toNat ≤ 57 := fun x hx => by simp [UInt8.toNat_ofNat']; omega
    by_cases h : n < 10
    · rw [dec_lt h]; intro c hm; rw [List.mem_singleton] at hm; subst hm; exact hc n h
    · rw [dec_ge h]
      intro c hm
      rcases List.mem_append.1 hm with h1 | h1
      · exact ih _ (by omega) c h1
      · rw [List.mem_singleton] at h1; subst h1; exact hc _ (by omega)
theorem dec_head (n : Nat) (hn : 0 < n) : ∃ c r, Lib.decDigits n = c :: r ∧ 49 ≤ c.toNat := by
  induction n using Nat.strongRecOn with
  | _ n ih =>
    by_cases h : n < 10
    · rw [dec_lt h]; exact ⟨_, [], rfl, by simp [UInt8.toNat_ofNat']; omega⟩
    · obtain ⟨c, r, h1, h2⟩ := ih (n / 10) (by omega) (by omega)
      rw [dec_ge h, h1]; exact ⟨c, _, rfl, h2⟩
theorem dec_len (n k : Nat) (hk : 1 ≤ k) (h : n < 10 ^ k) : (Lib.decDigits n).length ≤ k := (pk_pad k n hk h).2
end Go.Proofs.YtpgedkdaflgfoafGreatDoor.LgM
end
