import Derived.Test.YtknnidbdgfimbaaBigN
import Derived.Test.YtknnidbdgfimbaaJnI
import Derived.Test.YtknnidbdgfimbaaJnC
import Derived.Test.YtknnidbdgfimbaaBigM
import Derived.Test.YtknnidbdgfimbaaJnD
import Derived.Laws.CopyOwn
section
/- Contracts: Uint64, Int64, bit, length. -/
set_option linter.unusedSimpArgs false
set_option linter.unusedVariables false
set_option maxRecDepth 100000
namespace Go.Proofs.Ytknnidbdgfimbaa
open Go.RowKit

set_option maxHeartbeats 1000000 in
theorem Uint64_any (bx : Nat) (x : Int) (w : World) (hx : BigAt w bx x) (h : x.natAbs < 18446744073709551616) :
    Calls Try.prog 46 #[.pointer (some ⟨bx, 0, none⟩)] w fun e w' => e = .returned (.int .u64 (x.natAbs : Int)) ∧ ∃ q, w' = w.drewN q := by
  obtain ⟨xa, xl, xc, cx0, cx1, nx, _⟩ := hx.open
  obtain ⟨l, aa, g, cap, e, va, na, sa, pa, cell, _, lt⟩ := nx.open
  simp at e
  obtain ⟨rfl, rfl, rfl⟩ := e
  have h2 : l.length ≤ 2 := na.len (by rw [va, pw_two]; exact h)
  obtain ⟨X, gX⟩ : ∃ X, X = x.natAbs := ⟨_, rfl⟩
  rw [← gX] at va h ⊢
  clear hx nx lt na gX cx0
  rcases short_list l h2 with rfl | ⟨a, rfl⟩ | ⟨a, b, rfl⟩
  · have hv : X = 0 := by simpa [val] using va.symm
    subst hv
    clear va h cell sa pa h2
    go_enter Try.func46, Try.ntmps46
    go_wp2
    go_ret
    exact ⟨rfl, 0, rfl⟩
  · have hv : X = a := by simpa [val] using va.symm
    subst hv
    have c0 := cell 0 (by simp)
    simp at c0
    obtain rfl := pa (by simp)
    have s0 := sa X (by simp)
    clear va h cell sa pa h2
    go_enter Try.func46, Try.ntmps46
    go_wp2
    go_ret
    exact ⟨rfl, 0, rfl⟩
  · have hv : X = a + 4294967296 * b := by simpa [val] using va.symm
    have c0 := cell 0 (by simp)
    have c1 := cell 1 (by simp)
    simp at c0 c1
    obtain rfl := pa (by simp)
    have s0 := sa a (by simp)
    have s1 := sa b (by simp)
    have eo := or_low a b s0 s1
    rw [← hv] at eo
    clear va h hv cell sa pa h2
    go_enter Try.func46, Try.ntmps46
    go_wp2
    first
      | (go_ret; exact ⟨rfl, 0, rfl⟩)
      | (go_quiet (fail)
         go_wp2
         go_ret
         exact ⟨rfl, _, rfl⟩)

set_option maxHeartbeats 1000000 in
theorem Int64_any (bx : Nat) (x : Int) (w : World) (hx : BigAt w bx x) (h : x.natAbs < 9223372036854775808) :
    Calls Try.prog 25 #[.pointer (some ⟨bx, 0, none⟩)] w fun e w' => e = .returned (.int .i64 x) ∧ ∃ q, w' = w.drewN q := by
  obtain ⟨xa, xl, xc, cx0, cx1, nx, _⟩ := hx.open
  have HX : Hid (BigAt w bx x) := hx
  clear hx nx cx1
  by_cases hneg : x < 0
  · rw [decide_eq_true hneg] at cx0
    go_enter Try.func25, Try.ntmps25
    go_wp2_with fail
    refine (Uint64_any bx x w HX.out (by omega)).mono ?_
    rintro e w1 ⟨rfl, q, rfl⟩
    go_wp2
    go_ret
    exact ⟨ret_int (by omega), q, rfl⟩
  · rw [decide_eq_false hneg] at cx0
    go_enter Try.func25, Try.ntmps25
    go_wp2_with fail
    refine (Uint64_any bx x w HX.out (by omega)).mono ?_
    rintro e w1 ⟨rfl, q, rfl⟩
    go_wp2
    go_ret
    exact ⟨ret_int (by omega), q, rfl⟩

theorem length_any (s : Value) (a m : Nat) (w : World) (ha : NS w s a) (hm : a < pw m) (hm' : m ≤ 100000000) :
    Calls Try.prog 42 #[s] w fun e w' => ∃ L : Nat, e = .returned (.int .i64 (L : Int)) ∧ a < 2 ^ L ∧ L ≤ 3200000000 ∧ w' = w := by
  obtain ⟨l, aa, g, cap, rfl, va, na, sa, pa, cell, _, lt⟩ := ha.open
  subst va
  have l1 : l.length ≤ 100000000 := Nat.le_trans (na.len hm) hm'
  by_cases h0 : l.length = 0
  · obtain rfl : l = [] := List.length_eq_zero_iff.1 h0
    clear ha pa cell lt hm
    go_enter Try.func42, Try.ntmps42
    go_wp2
    go_ret
    exact ⟨0, rfl, by simp [val], by omega, rfl⟩
  · refine (length_core l aa g cap w (by omega) l1 sa (pa (by omega)) (cell _ (by omega))).mono ?_
    rintro e w' ⟨t, rfl, hb, ht, rfl⟩
    refine ⟨_, rfl, ?_, by omega, rfl⟩
    have h1 := val_split l (l.length - 1) (by omega)
    have h2 := take_lt l (l.length - 1) (by omega) sa
    have h3 : val (l.drop (l.length - 1 + 1)) = 0 := by rw [List.drop_eq_nil_of_le (by omega)]; rfl
    rw [h3, Nat.mul_zero, Nat.add_zero] at h1
    have h4 := hb.lt
    rw [h1, Nat.pow_add, Nat.mul_comm (l.length - 1), ← pw_two_pow]
    have h5 : pw (l.length - 1) * (l.getD (l.length - 1) 0 + 1) ≤ pw (l.length - 1) * 2 ^ t := Nat.mul_le_mul_left _ h4
    rw [Nat.mul_add, Nat.mul_one] at h5
    omega

/-- One bit of a number, out of its word. -/
theorem bit_word (l : List Nat) (i : Nat) (h : ∀ x ∈ l, x < 4294967296) (hi : i / 32 < l.length) : l.getD (i / 32) 0 / 2 ^ (i % 32) % 2 = val l / 2 ^ i % 2 := by
  rw [val_drop_shift l h i (i / 32) (i % 32) (by omega) (by omega), drop_step l (i / 32) hi]
  generalize l.getD (i / 32) 0 = x
  generalize val (l.drop (i / 32 + 1)) = V
  have hr : i % 32 < 32 := Nat.mod_lt _ (by omega)
  obtain ⟨r, gr⟩ : ∃ r, r = i % 32 := ⟨_, rfl⟩
  rw [← gr] at hr ⊢
  have e : 4294967296 * V = 2 ^ r * (2 * (2 ^ (31 - r) * V)) := by
    have : 2 ^ r * 2 * 2 ^ (31 - r) = 4294967296 := by
      rw [← Nat.pow_succ, ← Nat.pow_add, show r + 1 + (31 - r) = 32 by omega]
    rw [← Nat.mul_assoc, ← Nat.mul_assoc, this]
  rw [e, Nat.add_mul_div_left _ _ (Nat.two_pow_pos r)]
  omega

theorem low_bit (x r : Nat) (hx : x < 4294967296) : bits .and .u64 (IntKind.u64.wrap ((x : Int) / 2 ^ r)) 1 = ((x / 2 ^ r % 2 : Nat) : Int) := by
  have e : (x : Int) / 2 ^ r = ((x / 2 ^ r : Nat) : Int) := by simp
  have h : x / 2 ^ r ≤ x := Nat.div_le_self ..
  rw [e]
  generalize x / 2 ^ r = y at *
  have hw : IntKind.u64.wrap (y : Int) = (y : Int) := wrapN y (by omega)
  rw [hw]
  have := bits_and_u64_nat y 1 (by omega) (by omega)
  rw [Nat.and_one_is_mod] at this
  exact this

theorem bit_none (A i : Nat) (h : A < 2 ^ i) : A / 2 ^ i % 2 = 0 := by rw [Nat.div_eq_of_lt h]

set_option maxHeartbeats 1000000 in
theorem bit_any (s : Value) (A i m : Nat) (w : World) (hs : NS w s A) (hm : A < pw m) (hm' : m ≤ 100000000) (hi : i ≤ 4000000000) :
    Calls Try.prog 60 #[s, .int .i64 i] w fun e w' => e = .returned (.int .u64 ((A / 2 ^ i % 2 : Nat) : Int)) ∧ ∃ q, w' = w.drewN q := by
  obtain ⟨l, aa, g, cap, rfl, va, na, sa, pa, cell, _, lt⟩ := hs.open
  subst va
  have l1 : l.length ≤ 100000000 := Nat.le_trans (na.len hm) hm'
  by_cases h0 : i / 32 < l.length
  · obtain rfl := pa (by omega)
    have c0 := cell _ h0
    have s0 := List.getD_lt_of sa (i / 32)
    have hb := bit_word l i sa h0
    have hr : i % 32 < 32 := Nat.mod_lt _ (by omega)
    rw [← hb]
    obtain ⟨k, gk⟩ : ∃ k, k = i / 32 := ⟨_, rfl⟩
    obtain ⟨r, gr⟩ : ∃ r, r = i % 32 := ⟨_, rfl⟩
    rw [← gk] at c0 s0 h0 ⊢
    rw [← gr] at hr ⊢
    obtain ⟨x, gx⟩ : ∃ x, x = l.getD k 0 := ⟨_, rfl⟩
    rw [← gx] at c0 s0 ⊢
    have ek : (i : Int) / 32 = (k : Int) := by omega
    have er : (i : Int) % 32 = (r : Int) := by omega
    clear hs hm lt cell pa sa na hb gk gr gx
    go_enter Try.func60, Try.ntmps60
    go_wp2
    go_ret
    exact ⟨ret_int (low_bit x r s0), 0, rfl⟩
  · have hz : val l / 2 ^ i % 2 = 0 := by
      refine bit_none _ _ ?_
      have h1 := val_lt l sa
      rw [pw_two_pow] at h1
      exact Nat.lt_of_lt_of_le h1 (Nat.pow_le_pow_right (by omega) (by omega))
    rw [hz]
    clear hs hm lt cell pa sa na hz
    go_enter Try.func60, Try.ntmps60
    go_wp2
    go_ret
    exact ⟨rfl, 0, rfl⟩

end Go.Proofs.Ytknnidbdgfimbaa
end

section
/- The long numbers' Sqrt, of small numbers: low, of, SetBit, length. -/
set_option linter.unusedSimpArgs false
set_option linter.unusedVariables false
set_option maxRecDepth 100000
namespace Go.Proofs.Ytknnidbdgfimbaa
open Go.RowKit

theorem pw_one : pw 1 = 4294967296 := by decide
theorem length_small (s : Value) (a : Nat) (w : World) (ha : NS w s a) (hm : a < 4294967296) :
    Calls Try.prog 42 #[s] w fun e w' => ∃ L : Nat, e = .returned (.int .i64 (L : Int)) ∧ a < 2 ^ L ∧ L ≤ 32 ∧ w' = w := by
  obtain ⟨l, aa, g, cap, rfl, va, na, sa, pa, cell, _, lt⟩ := ha.open
  subst va
  have l1 : l.length ≤ 1 := na.len (by rw [pw_one]; exact hm)
  by_cases h0 : l.length = 0
  · obtain rfl : l = [] := List.length_eq_zero_iff.1 h0
    clear ha pa cell lt hm
    go_enter Try.func42, Try.ntmps42
    go_wp2
    go_ret
    exact ⟨0, rfl, by simp [val], by omega, rfl⟩
  · refine (length_core l aa g cap w (by omega) (by omega) sa (pa (by omega)) (cell _ (by omega))).mono ?_
    rintro e w' ⟨t, rfl, hb, ht, rfl⟩
    obtain ⟨x, rfl⟩ : ∃ x, l = [x] := by
      match l, l1, h0 with
      | [x], _, _ => exact ⟨x, rfl⟩
    refine ⟨_, rfl, ?_, by simp; omega, rfl⟩
    have := hb.lt
    simpa [val] using this

set_option maxHeartbeats 1000000 in
theorem low_small (b R : Nat) (w : World) (h : BigAt w b (R : Int)) (hR : R < 4294967296) :
    Calls Try.prog 62 #[.pointer (some ⟨b, 0, none⟩), .int .i64 2] w fun e w' => e = .returned (.slice (some ⟨w.heap.size, 0, none⟩) 2 2) ∧ Row w' w.heap.size [R, 0] ∧ Below w.heap.size w w' := by
  obtain ⟨i0, hi, hz0, hz1, hz2⟩ := info_parts Try.info32
  have hb := h.lt
  obtain ⟨aa, len, cap, c0, c1, ns, _⟩ := h.open
  have hng : decide ((R : Int) < 0) = false := decide_eq_false (by omega)
  rw [hng] at c0
  have hRa : (R : Int).natAbs = R := Int.natAbs_natCast R
  rw [hRa] at ns
  obtain ⟨l, a2, g2, cap2, he, va, na, sa, pa, cell, hlc, lt⟩ := ns.open
  simp only [Value.slice.injEq] at he
  obtain ⟨rfl, rfl, rfl⟩ := he
  have l1 : l.length ≤ 1 := na.len (by rw [pw_one, va]; exact hR)
  clear h ns
  go_enter Try.func62, Try.ntmps62
  go_wp2_with (at_make; refine wpList_make_full _ rfl _ _ 52 rfl w.heap.size 89 i0 (.int .u32 0) 1 Try.underlying52 hi hz0 hz1 .i64 .i64 _ _ 2 rfl rfl (by omega) (by omega) (by rw [hz2]; omega) (by unfold maxLen; omega) (Nat.le_refl _) ?_)
  intro w1 hmk hb1
  have R1 : Hid (Row w1 w.heap.size [0, 0]) := Row.of_make hmk
  have KB1 : Hid (Below w.heap.size w w1) := ⟨hb1.os, hb1.tape, hb1.output, hb1.size, fun k hk => hb1.block k hk (by simp)⟩
  have d0 : w1.cell? ⟨b, 0, none⟩ = some (.bool false) := (KB1.out.cell (p := ⟨b, 0, none⟩) hb).trans c0
  have d1 : w1.cell? ⟨b, 1, none⟩ = some (.slice aa l.length cap) := (KB1.out.cell (p := ⟨b, 1, none⟩) hb).trans c1
  have HSrc : Hid (0 < (l.map fun x : Nat => Value.int .u32 (x : Int)).length → ∃ ad, aa = some ad ∧ ∀ j v, (l.map fun x : Nat => Value.int .u32 (x : Int))[j]? = some v → w1.cell? (ad.add j) = some v) := by
    intro h
    rw [List.length_map] at h
    refine ⟨⟨g2, 0, none⟩, pa h, fun j v hj => ?_⟩
    have hjl : j < l.length := by
      rcases Nat.lt_or_ge j l.length with c | c
      · exact c
      · rw [List.getElem?_eq_none (by simpa using c)] at hj; cases hj
    have e : ((⟨g2, 0, none⟩ : Addr).add j) = ⟨g2, j, none⟩ := by
      cases j with
      | zero => rfl
      | succ n => simp [Addr.add]
    rw [e, KB1.out.cell (p := ⟨g2, j, none⟩) (lt h), cell j hjl, ← hj]; simp [hjl]
  have HON : Hid (∀ v ∈ (l.map fun x : Nat => Value.int .u32 (x : Int)), v.oneCell' = true) := by
    intro u hu; simp at hu; obtain ⟨x, _, rfl⟩ := hu; rfl
  have HMI : Hid ((l.map fun x : Nat => Value.int .u32 (x : Int)).length = Nat.min l.length 2) := by
    show _ = min _ _; rw [List.length_map]; omega
  have HFI : Hid (0 + (l.map fun x : Nat => Value.int .u32 (x : Int)).length ≤ (([0, 0] : List Nat).map fun x : Nat => Value.int .u32 (x : Int)).length) := by
    show _ ≤ _; simp; omega
  have HV : Hid (val l = R ∧ l.length ≤ 1) := ⟨va, l1⟩
  clear hmk hb1 c0 c1 pa cell lt na sa va hng hRa
  go_wp2_with ((refine wpList_copy_splice rfl _ _ 52 52 rfl 89 Try.underlying52 Try.size32 _ _ _ _ _ _ rfl rfl w.heap.size 0 (([0, 0] : List Nat).map fun x : Nat => Value.int .u32 (x : Int)) 89 R1.out (l.map fun x : Nat => Value.int .u32 (x : Int)) HMI.out (fun h => ⟨rfl, HSrc.out h⟩) HFI.out HON.out w.heap.size w KB1.out (Nat.le_refl _) ?_))
  intro w2 hr2 k2
  have R2 : Hid (Row w2 w.heap.size [R, 0]) := by
    show _ = _
    rw [hr2.out]
    obtain ⟨hv, hl⟩ := HV.out
    rcases l with _ | ⟨x, _ | ⟨y, t⟩⟩
    · simp [val] at hv; subst hv; rfl
    · simp [val] at hv; subst hv; rfl
    · simp at hl
  have K2 : Hid (Below w.heap.size w w2) := k2
  have d0 : w2.cell? ⟨b, 0, none⟩ = some (.bool false) := (k2.cell (p := ⟨b, 0, none⟩) hb).trans ((KB1.out.cell (p := ⟨b, 0, none⟩) hb).symm.trans d0)
  clear hr2 k2 R1 KB1 HSrc HON HMI HFI d1
  go_wp2
  go_ret
  exact ⟨rfl, R2.out, K2.out⟩

set_option maxHeartbeats 1000000 in
theorem of_small (bz g x : Nat) (w : World) (hz : Slot w bz) (hr : Row w g [x, 0]) (hx : x < 4294967296) :
    Calls Try.prog 63 #[.pointer (some ⟨bz, 0, none⟩), .slice (some ⟨g, 0, none⟩) 2 2] w fun e w' => e = .returned (.pointer (some ⟨bz, 0, none⟩)) ∧ BigAt w' bz (x : Int) ∧ Upd bz w w' := by
  have c1 := hr.cell 1 (by simp)
  simp at c1
  have hsl : Sl w (.slice (some ⟨g, 0, none⟩) 2 2) [x, 0] := hr.sl (by intro y hy; simp at hy; omega)
  have HS : Hid (Sl w (.slice (some ⟨g, 0, none⟩) 2 2) [x, 0]) := hsl
  have HZ : Hid (Slot w bz) := hz
  have hval : val [x, 0] = x := by simp [val]
  clear hsl hz hr
  go_enter Try.func63, Try.ntmps63
  go_wp2_with fail
  refine (trim_any [x, 0] _ w (by simp) HS.out).mono ?_
  rw [hval]
  rintro e w1 ⟨s, rfl, ns, hw1⟩
  rw [hw1]
  clear hw1 w1
  obtain ⟨sa, sl, sc, rfl, _⟩ := ns.shape
  go_wp2_with fail
  refine (give_any bz false _ x w HZ.out ns).mono ?_
  rintro e w2 ⟨rfl, hbig, hu⟩
  have HB : Hid (BigAt w2 bz (x : Int)) := by show BigAt _ _ _; simpa [sgd] using hbig
  clear hbig
  go_wp2
  go_ret
  exact ⟨rfl, HB.out, hu⟩

end Go.Proofs.Ytknnidbdgfimbaa
end

section
/- The long numbers' SetBit and Sqrt, of small numbers. -/
set_option linter.unusedSimpArgs false
set_option linter.unusedVariables false
set_option maxRecDepth 100000
namespace Go.Proofs.Ytknnidbdgfimbaa
open Go.RowKit

theorem or_w32 (a b : Nat) (ha : a < 4294967296) (hb : b < 4294967296) : bits .or .u32 (a : Int) (b : Int) = ((a ||| b : Nat) : Int) := by
  have hx : a ||| b < 2 ^ 32 := Nat.or_lt_two_pow (by omega) (by omega)
  have h1 : (BitVec.ofInt 32 (a : Int)).toNat = a := by
    rw [BitVec.ofInt_natCast, BitVec.toNat_ofNat]; exact Nat.mod_eq_of_lt (by omega)
  have h2 : (BitVec.ofInt 32 (b : Int)).toNat = b := by
    rw [BitVec.ofInt_natCast, BitVec.toNat_ofNat]; exact Nat.mod_eq_of_lt (by omega)
  show IntKind.u32.wrap ((BitVec.ofInt 32 (a : Int) ||| BitVec.ofInt 32 (b : Int)).toNat : Int) = _
  rw [BitVec.toNat_or, h1, h2, IntKind.wrap_u32]
  omega
theorem andNot_u32 (A e : Nat) (h : A * (2 * 2 ^ e) < 4294967296) (he : e < 32) : bits .andNot .u32 ((A * (2 * 2 ^ e) : Nat) : Int) ((2 ^ e : Nat) : Int) = ((A * (2 * 2 ^ e) : Nat) : Int) := by
  obtain ⟨R, hR⟩ : ∃ R, R = A * (2 * 2 ^ e) := ⟨_, rfl⟩
  rw [← hR] at h ⊢
  have hp : 2 ^ e < 2 ^ 32 := Nat.pow_lt_pow_right (by omega) he
  have h1 : (BitVec.ofInt 32 (R : Int)).toNat = R := by
    rw [BitVec.ofInt_natCast, BitVec.toNat_ofNat]; exact Nat.mod_eq_of_lt (by omega)
  have h2 : (BitVec.ofInt 32 ((2 ^ e : Nat) : Int)).toNat = 2 ^ e := by
    rw [BitVec.ofInt_natCast, BitVec.toNat_ofNat]; exact Nat.mod_eq_of_lt hp
  show IntKind.u32.wrap ((BitVec.ofInt 32 (R : Int) &&& ~~~BitVec.ofInt 32 ((2 ^ e : Nat) : Int)).toNat : Int) = _
  have h3 : (BitVec.ofInt 32 (R : Int) &&& ~~~BitVec.ofInt 32 ((2 ^ e : Nat) : Int)).toNat = R := by
    rw [BitVec.toNat_and, BitVec.toNat_not, h1, h2]
    apply Nat.eq_of_testBit_eq
    intro j
    rw [Nat.testBit_and, show 2 ^ 32 - 1 - 2 ^ e = 2 ^ 32 - (2 ^ e + 1) by omega, Nat.testBit_two_pow_sub_succ hp, Nat.testBit_two_pow]
    by_cases hj : j = e
    · subst hj
      have : R.testBit j = false := by
        rw [hR, Nat.mul_comm, ← Nat.pow_succ', Nat.testBit_two_pow_mul]
        simp
        omega
      simp [this]
    · by_cases hj2 : j < 32
      · simp [hj2, Ne.symm hj]
      · have : R.testBit j = false := Nat.testBit_lt_two_pow (Nat.lt_of_lt_of_le h (by
          have := Nat.pow_le_pow_right (show 0 < 2 by omega) (show 32 ≤ j by omega)
          omega))
        simp [this]
  rw [h3, IntKind.wrap_u32]
  omega

set_option maxHeartbeats 2000000 in
theorem SetBit_small (bz bx A i : Nat) (w : World) (hz : Slot w bz) (hx : BigAt w bx ((A * (2 * 2 ^ i) : Nat) : Int)) (hi : i ≤ 16) (hA : (A + 1) * (2 * 2 ^ i) ≤ 2147483648) :
    Calls Try.prog 43 #[.pointer (some ⟨bz, 0, none⟩), .pointer (some ⟨bx, 0, none⟩), .int .i64 (i : Int), .int .u64 1] w fun e w' => e = .returned (.pointer (some ⟨bz, 0, none⟩)) ∧ BigAt w' bz (((2 * A + 1) * 2 ^ i : Nat) : Int) ∧ Upd bz w w' := by
  have hA1 : A * (2 * 2 ^ i) + 2 * 2 ^ i ≤ 2147483648 := by rw [Nat.add_mul, Nat.one_mul] at hA; exact hA
  have hpp : 0 < 2 ^ i := Nat.two_pow_pos i
  have hor := or_top A i (2 ^ i) rfl hpp
  have han := andNot_u32 A i (by omega) (by omega)
  obtain ⟨p, hp⟩ : ∃ p, p = 2 ^ i := ⟨_, rfl⟩
  have hpI : (2 : Int) ^ i = (p : Int) := by rw [hp]; simp
  rw [← hp] at hA1 hpp hor han hx ⊢
  obtain ⟨R, hR⟩ : ∃ R, R = A * (2 * p) := ⟨_, rfl⟩
  rw [← hR] at hA1 hor han hx
  obtain ⟨T, hT⟩ : ∃ T, T = (2 * A + 1) * p := ⟨_, rfl⟩
  rw [← hT] at hor ⊢
  have hoI : bits .or .u32 (R : Int) (p : Int) = (T : Int) := by rw [or_w32 R p (by omega) (by omega), hor]
  have hTb : T < 4294967296 := by rw [← hor]; exact Nat.or_lt_two_pow (n := 32) (by omega) (by omega)
  have hLow := low_small bx R w hx (by omega)
  have HLow : Hid (Calls Try.prog 62 #[.pointer (some ⟨bx, 0, none⟩), .int .i64 2] w fun e w' => e = .returned (.slice (some ⟨w.heap.size, 0, none⟩) 2 2) ∧ Row w' w.heap.size [R, 0] ∧ Below w.heap.size w w') := hLow
  obtain ⟨aa, len, cap, c0, c1, ns, _⟩ := hx.open
  have hlen : len ≤ 1 := by
    rw [Int.natAbs_natCast] at ns
    obtain ⟨l, a2, g2, cap2, he, va, na, sa, pa, cell, hlc, lt⟩ := ns.open
    simp only [Value.slice.injEq] at he
    rw [he.2.1]
    exact na.len (by rw [pw_one, va]; omega)
  have hmx : max (len : Int) 1 = 1 := by omega
  have hi0 : Int.tdiv (i : Int) 32 = 0 := by
    show ((i / 32 : Nat) : Int) = 0
    rw [Nat.div_eq_of_lt (by omega)]; rfl
  have hi1 : (i : Int) / 32 = 0 := by omega
  have him : (i : Int) % 32 = (i : Int) := by omega
  have hiu : IntKind.u64.wrap (i : Int) = (i : Int) := by rw [IntKind.wrap_u64]; omega
  have HZ : Hid (Slot w bz) := hz
  have lz := hz.lt
  clear hz hx ns hor hT hR hp hLow c0
  go_enter Try.func43, Try.ntmps43
  go_wp2_with fail
  refine HLow.out.mono ?_
  rintro e w1 ⟨rfl, r1, k1⟩
  have R1 : Hid (Row w1 w.heap.size [R, 0]) := r1
  have q0 := r1.cell 0 (by simp)
  have q1 := r1.frozen 0
  simp at q0
  have K1 : Hid (Below w.heap.size w w1) := k1
  clear r1 k1 c1 HLow
  go_wp2_with fail
  have hb1 : bits .and .u64 1 1 = 1 := by decide
  have hval : bits .or .u32 (R : Int) (bits .and .u64 1 1 % 4294967296 * (p : Int) % 4294967296) = (T : Int) := by
    rw [hb1, show (1 : Int) % 4294967296 * (p : Int) % 4294967296 = (p : Int) by omega, hoI]
  rw [hval]
  have R2 : Row ((w1.setCell ⟨w.heap.size, 0, none⟩ (.int .u32 (R : Int))).setCell ⟨w.heap.size, 0, none⟩ (.int .u32 (T : Int))) w.heap.size [T, 0] := by
    have := (R1.out.set 0 (R : Int) R rfl).set 0 (T : Int) T rfl
    simpa using this
  have K2 : Below w.heap.size w ((w1.setCell ⟨w.heap.size, 0, none⟩ (.int .u32 (R : Int))).setCell ⟨w.heap.size, 0, none⟩ (.int .u32 (T : Int))) := (K1.out.setCell (Nat.le_refl _) _).setCell (Nat.le_refl _) _
  generalize hW2 : ((w1.setCell ⟨w.heap.size, 0, none⟩ (.int .u32 (R : Int))).setCell ⟨w.heap.size, 0, none⟩ (.int .u32 (T : Int))) = W2 at R2 K2 ⊢
  clear hval hb1 hW2 q0 q1 hoI han hpI hi0 hi1 him hiu hmx
  refine (of_small bz w.heap.size T W2 (HZ.out.below K2 (Nat.le_refl _)) R2 hTb).mono ?_
  rintro e w3 ⟨rfl, hbig, hu⟩
  have HB : Hid (BigAt w3 bz (T : Int)) := hbig
  have HU : Hid (Upd bz w w3) := Upd.then_below K2 hu
  clear hbig hu K2 R2
  go_wp2
  go_ret
  exact ⟨rfl, HB.out, HU.out⟩

theorem sq_grow {a b c d : Nat} (h : a < b) (hb : b * b ≤ c) (h2 : c < d) : a * a < d := by
  have := Nat.mul_le_mul (Nat.le_of_lt h) (Nat.le_of_lt h)
  omega

set_option maxHeartbeats 4000000 in
theorem Sqrt_small (bz bx n : Nat) (w : World) (hz : Slot w bz) (hx : BigAt w bx (n : Int)) (hn : n < 1073741824) :
    Calls Try.prog 23 #[.pointer (some ⟨bz, 0, none⟩), .pointer (some ⟨bx, 0, none⟩)] w fun e w' => ∃ r : Nat, e = .returned (.pointer (some ⟨bz, 0, none⟩)) ∧ BigAt w' bz (r : Int) ∧ (r * r ≤ n ∧ n < (r + 1) * (r + 1)) ∧ Upd bz w w' := by
  obtain ⟨aa, len, cap, c0, c1, ns, _⟩ := hx.open
  have hng : decide ((n : Int) < 0) = false := decide_eq_false (by omega)
  rw [hng] at c0
  rw [Int.natAbs_natCast] at ns
  have lx := hx.lt
  have lz := hz.lt
  have HX : Hid (BigAt w bx (n : Int)) := hx
  have HZ : Hid (Slot w bz) := hz
  have HNS : Hid (NS w (.slice aa len cap) n) := ns
  clear hx hz ns hng
  have kA : Below w.heap.size w (w.alloc (.cells #[.bool false, .slice none 0 0] 54)) := (Below.refl _ _).alloc (Nat.le_refl _) _
  have hzero : BigAt (w.alloc (.cells #[.bool false, .slice none 0 0] 54)) w.heap.size ((0 : Nat) : Int) := by
    refine ⟨.slice none 0 0, ?_, [], ⟨by simp, .inl ⟨rfl, rfl⟩⟩, rfl, .inl rfl⟩
    have : (w.alloc (.cells #[.bool false, .slice none 0 0] 54)).heap[w.heap.size]? = some (.cells #[.bool false, .slice none 0 0] 54) := heap_alloc_new _ _
    simpa using this
  have HZr : Hid (BigAt (w.alloc (.cells #[.bool false, .slice none 0 0] 54)) w.heap.size ((0 : Nat) : Int)) := hzero
  have HK : Hid (Below w.heap.size w (w.alloc (.cells #[.bool false, .slice none 0 0] 54))) := kA
  clear hzero kA
  have d1 : ∀ x : Obj, (w.alloc x).cell? ⟨bx, 1, none⟩ = some (.slice aa len cap) := fun x => (cell_old_at _ _ _ lx).trans c1
  go_enter Try.func23, Try.ntmps23
  go_wp2_with fail
  generalize hW1 : (w.alloc (.cells #[.bool false, .slice none 0 0] 54)) = W1 at HZr HK ⊢
  refine (length_small _ n W1 (HNS.out.below HK.out (Nat.le_refl _)) (by omega)).mono ?_
  rintro e w2 ⟨L, rfl, hL, hL2, hw2⟩
  rw [hw2]
  clear hw2 w2
  obtain ⟨j0, hj0⟩ : ∃ j0 : Nat, j0 = (L + 1) / 2 + 1 := ⟨_, rfl⟩
  have hq0 : Int.tdiv ((L : Int) + 1) 2 = (j0 : Int) - 1 := by
    have : Int.tdiv ((L : Int) + 1) 2 = (((L + 1) / 2 : Nat) : Int) := rfl
    omega
  have hq1 : ((L : Int) + 1) / 2 = (j0 : Int) - 1 := by omega
  have hj17 : j0 ≤ 17 := by omega
  have hst : n < (1 * 2 ^ j0) * (1 * 2 ^ j0) := by
    rw [Nat.one_mul, ← Nat.pow_add]
    exact Nat.lt_of_lt_of_le hL (Nat.pow_le_pow_right (by omega) (by omega))
  have HSt : Hid (n < (1 * 2 ^ j0) * (1 * 2 ^ j0)) := hst
  clear hL hst hj0 hL2 d1 c1 c0 HNS
  have z1 : W1.heap.size = w.heap.size + 1 := by rw [← hW1]; simp
  clear hW1
  go_wp2
  go_loopw [5, 6] (fun rv iv wx => ∃ j b A : Nat, rv = .pointer (some ⟨b, 0, none⟩) ∧ iv = .int .i64 ((j : Int) - 1) ∧ j ≤ 17 ∧ Hid (BigAt wx b ((A * 2 ^ j : Nat) : Int) ∧ ((A * 2 ^ j) * (A * 2 ^ j) ≤ n ∧ n < ((A + 1) * 2 ^ j) * ((A + 1) * 2 ^ j)) ∧ Below w.heap.size w wx)) (fun _ iv _ => (intOf iv + 1).toNat)
  case atStart => exact ⟨j0, w.heap.size, 0, rfl, rfl, hj17, by rw [Nat.zero_mul]; exact HZr.out, ⟨by simp, HSt.out⟩, HK.out⟩
  case round =>
    clear HSt HZr HK hq0 hq1 hj17
    obtain ⟨j, b, A, rfl, rfl, hj, HR⟩ := hrel
    by_cases hj0 : j = 0
    · subst hj0
      have hR := HR.out
      simp only [Nat.pow_zero, Nat.mul_one] at hR
      have HR2 : Hid (BigAt wr b (A : Int) ∧ (A * A ≤ n ∧ n < (A + 1) * (A + 1)) ∧ Below w.heap.size w wr) := hR
      have hAb : A < 1000000 := by
        rcases Nat.lt_or_ge A 1000000 with h | h
        · exact h
        · have := Nat.mul_le_mul h h; have := hR.2.1.1; omega
      clear HR hR
      go_wp2_with fail
      refine (Set_any bz b (A : Int) 1 wr (HZ.out.below HR2.out.2.2 (Nat.le_refl _)) HR2.out.1 (by rw [pw_one, Int.natAbs_natCast]; omega) (by omega)).mono ?_
      rintro e w3 ⟨rfl, hb, hu⟩
      go_wp2
      go_ret
      exact ⟨A, rfl, hb, HR2.out.2.1, Upd.then_below HR2.out.2.2 hu⟩
    · obtain ⟨i, rfl⟩ : ∃ i, j = i + 1 := ⟨j - 1, by omega⟩
      have hR := HR.out
      have hpe : 2 ^ (i + 1) = 2 * 2 ^ i := by rw [Nat.pow_succ, Nat.mul_comm]
      rw [hpe] at hR
      have hp16 : 2 ^ i ≤ 65536 := Nat.pow_le_pow_right (show 0 < 2 by omega) (show i ≤ 16 by omega)
      have hAp : A * (2 * 2 ^ i) < 32768 := by
        rcases Nat.lt_or_ge (A * (2 * 2 ^ i)) 32768 with h | h
        · exact h
        · have := Nat.mul_le_mul h h; have := hR.2.1.1; omega
      have hA2 : (A + 1) * (2 * 2 ^ i) ≤ 2147483648 := by rw [Nat.add_mul, Nat.one_mul]; omega
      obtain ⟨T, hT⟩ : ∃ T, T = (2 * A + 1) * 2 ^ i := ⟨_, rfl⟩
      have hTb : T < 200000 := by
        rw [hT, Nat.add_mul, Nat.one_mul, Nat.mul_comm 2 A, Nat.mul_assoc]; omega
      have HR2 : Hid (BigAt wr b ((A * (2 * 2 ^ i) : Nat) : Int) ∧ ((A * (2 * 2 ^ i)) * (A * (2 * 2 ^ i)) ≤ n ∧ n < ((A + 1) * (2 * 2 ^ i)) * ((A + 1) * (2 * 2 ^ i))) ∧ Below w.heap.size w wr) := hR
      have HT : Hid (T = (2 * A + 1) * 2 ^ i) := hT
      have HSb : Hid (∀ (W : World) (bz' : Nat), Slot W bz' → BigAt W b ((A * (2 * 2 ^ i) : Nat) : Int) → Calls Try.prog 43 #[.pointer (some ⟨bz', 0, none⟩), .pointer (some ⟨b, 0, none⟩), .int .i64 (i : Int), .int .u64 1] W fun e w' => e = .returned (.pointer (some ⟨bz', 0, none⟩)) ∧ BigAt w' bz' (T : Int) ∧ Upd bz' W w') := fun W bz' h1 h2 => by
        rw [hT]; exact SetBit_small bz' b A i W h1 h2 (by omega) hA2
      have hge : decide ((0 : Int) ≤ (i : Int)) = true := decide_eq_true (by omega)
      have hii : ((i + 1 : Nat) : Int) - 1 = (i : Int) := by omega
      rw [hii]
      clear hR HR hT hA2 hAp hp16 hpe
      go_wp2_with fail
      have ka := (Below.refl wr.heap.size wr).alloc (Nat.le_refl _) (.cells #[.bool false, .slice none 0 0] 54)
      refine (HSb.out _ wr.heap.size (slot_new wr _ _) (HR2.out.1.below ka (Nat.le_refl _))).mono ?_
      rintro e w3 ⟨rfl, hb3, hu3⟩
      have k3 : Below wr.heap.size wr w3 := ka.trans (hu3.below (by simp) (Nat.le_refl _))
      have HB3 : Hid (BigAt w3 wr.heap.size (T : Int)) := hb3
      have HK3 : Hid (Below wr.heap.size wr w3) := k3
      have z3 : wr.heap.size < w3.heap.size := hb3.lt
      clear hb3 hu3 ka k3
      go_wp2_with fail
      have ka := (Below.refl w3.heap.size w3).alloc (Nat.le_refl _) (.cells #[.bool false, .slice none 0 0] 54)
      refine (Mul_any w3.heap.size wr.heap.size wr.heap.size (T : Int) (T : Int) 1 1 _ (slot_new w3 _ _) (HB3.out.below ka (Nat.le_refl _)) (HB3.out.below ka (Nat.le_refl _)) (by rw [pw_one, Int.natAbs_natCast]; omega) (by rw [pw_one, Int.natAbs_natCast]; omega) (by omega) (by omega)).mono ?_
      rintro e w4 ⟨rfl, hb4, hu4⟩
      have k4 : Below w3.heap.size w3 w4 := ka.trans (hu4.below (by simp) (Nat.le_refl _))
      obtain ⟨TT, hTT⟩ : ∃ TT : Nat, TT = T * T := ⟨_, rfl⟩
      have hTTI : (T : Int) * (T : Int) = (TT : Int) := by rw [hTT, Int.natCast_mul]
      rw [hTTI] at hb4
      have hTTb : TT ≤ 40000000000 := by
        rw [hTT]; have := Nat.mul_le_mul (Nat.le_of_lt hTb) (Nat.le_of_lt hTb); omega
      have HTT : Hid (TT = T * T) := hTT
      have k34 : Below wr.heap.size wr w4 := HK3.out.trans (k4.mono (by omega))
      have HB4 : Hid (BigAt w4 wr.heap.size (T : Int)) := HB3.out.below k4 (Nat.le_refl _)
      have HK4 : Hid (Below wr.heap.size wr w4) := k34
      have HR4 : Hid (BigAt w4 b ((A * (2 * 2 ^ i) : Nat) : Int)) := HR2.out.1.below k34 (Nat.le_refl _)
      have HM4 : Hid (BigAt w4 w3.heap.size (TT : Int)) := hb4
      have HX4 : Hid (BigAt w4 bx (n : Int)) := HX.out.below (HR2.out.2.2.trans (k34.mono HR2.out.2.2.size)) (Nat.le_refl _)
      clear hb4 hu4 ka k4 k34 HB3 HK3 hTT hTTI HSb
      go_wp2_with fail
      refine (Cmp_any w3.heap.size bx (TT : Int) (n : Int) 2 1 w4 HM4.out HX4.out (by rw [pw_two, Int.natAbs_natCast]; omega) (by rw [pw_one, Int.natAbs_natCast]; omega) (by omega) (by omega)).mono ?_
      rintro e w5 ⟨rfl, k, hw5⟩
      rw [hw5]
      clear hw5 w5
      by_cases hc : TT ≤ n
      · have hcz : decide (cmpZ (TT : Int) (n : Int) ≤ 0) = true := by
          refine decide_eq_true ?_
          unfold cmpZ; split <;> (try split) <;> omega
        generalize cmpZ (TT : Int) (n : Int) = cz at hcz ⊢
        go_wp2
        go_roundw
        case rel =>
          refine ⟨i, wr.heap.size, 2 * A + 1, rfl, by go_num, by omega, ?_, ⟨?_, ?_⟩, ?_⟩
          · rw [← HT.out]; exact HB4.out.drewN
          · rw [← HT.out, ← HTT.out]; exact hc
          · have := HR2.out.2.1.2
            have e : (A + 1) * (2 * 2 ^ i) = (2 * A + 1 + 1) * 2 ^ i := by
              rw [← Nat.mul_assoc]; congr 1; omega
            rw [← e]; exact this
          · exact below_drewN' (HR2.out.2.2.trans (HK4.out.mono HR2.out.2.2.size))
        case measure => simp [intOf]
      · have hcz : decide (cmpZ (TT : Int) (n : Int) ≤ 0) = false := by
          refine decide_eq_false ?_
          unfold cmpZ; split <;> (try split) <;> omega
        generalize cmpZ (TT : Int) (n : Int) = cz at hcz ⊢
        go_wp2
        go_roundw
        case rel =>
          have e : A * (2 * 2 ^ i) = (2 * A) * 2 ^ i := by rw [← Nat.mul_assoc, Nat.mul_comm A 2]
          refine ⟨i, b, 2 * A, rfl, by go_num, by omega, ?_, ⟨?_, ?_⟩, ?_⟩
          · rw [← e]; exact HR4.out.drewN
          · rw [← e]; exact HR2.out.2.1.1
          · rw [← HT.out, ← HTT.out]; omega
          · exact below_drewN' (HR2.out.2.2.trans (HK4.out.mono HR2.out.2.2.size))
        case measure => simp [intOf]

end Go.Proofs.Ytknnidbdgfimbaa
end
