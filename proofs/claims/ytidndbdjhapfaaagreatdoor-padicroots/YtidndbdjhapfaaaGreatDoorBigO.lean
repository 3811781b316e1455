/- Contracts: Uint64, Int64, bit, length. -/
import Derived.Test.YtidndbdjhapfaaaGreatDoorBigN
import Derived.Test.YtidndbdjhapfaaaGreatDoorJoinD
import Derived.Test.YtidndbdjhapfaaaGreatDoorWholeI
set_option linter.unusedSimpArgs false
set_option linter.unusedVariables false
set_option maxRecDepth 100000
namespace Go.Proofs.YtidndbdjhapfaaaGreatDoor
open Go.RowKit

set_option maxHeartbeats 1000000 in
theorem Uint64_any (bx : Nat) (x : Int) (w : World) (hx : BigAt w bx x) (h : x.natAbs < 18446744073709551616) :
    Calls Tryz.prog 48 #[.pointer (some ⟨bx, 0, none⟩)] w fun e w' => e = .returned (.int .u64 (x.natAbs : Int)) ∧ ∃ q, w' = w.drewN q := by
  obtain ⟨xa, xl, xc, cx0, cx1, nx, _⟩ := hx.open
  obtain ⟨l, aa, g, cap, e, va, na, sa, pa, cell, _, lt⟩ := nx.open
  simp at e
  obtain ⟨rfl, rfl, rfl⟩ := e
  have h2 : l.length ≤ 2 := na.len (by rw [va, pw_two]; exact h)
  obtain ⟨X, gX⟩ : ∃ X, X = x.natAbs := ⟨_, rfl⟩
  rw [← gX] at va h ⊢
  clear hx nx lt na gX cx0
  rcases short_list l h2 with rfl | ⟨a, rfl⟩ | ⟨a, b, rfl⟩
  · have hv : X = 0 := by simpa [val] using va.symm
    subst hv
    clear va h cell sa pa h2
    go_enter Tryz.func48, Tryz.ntmps48
    go_wp2
    go_ret
    exact ⟨rfl, 0, rfl⟩
  · have hv : X = a := by simpa [val] using va.symm
    subst hv
    have c0 := cell 0 (by simp)
    simp at c0
    obtain rfl := pa (by simp)
    have s0 := sa X (by simp)
    clear va h cell sa pa h2
    go_enter Tryz.func48, Tryz.ntmps48
    go_wp2
    go_ret
    exact ⟨rfl, 0, rfl⟩
  · have hv : X = a + 4294967296 * b := by simpa [val] using va.symm
    have c0 := cell 0 (by simp)
    have c1 := cell 1 (by simp)
    simp at c0 c1
    obtain rfl := pa (by simp)
    have s0 := sa a (by simp)
    have s1 := sa b (by simp)
    have eo := or_low a b s0 s1
    rw [← hv] at eo
    clear va h hv cell sa pa h2
    go_enter Tryz.func48, Tryz.ntmps48
    go_wp2
    first
      | (go_ret; exact ⟨rfl, 0, rfl⟩)
      | (go_quiet (fail)
         go_wp2
         go_ret
         exact ⟨rfl, _, rfl⟩)

set_option maxHeartbeats 1000000 in
theorem Int64_any (bx : Nat) (x : Int) (w : World) (hx : BigAt w bx x) (h : x.natAbs < 9223372036854775808) :
    Calls Tryz.prog 20 #[.pointer (some ⟨bx, 0, none⟩)] w fun e w' => e = .returned (.int .i64 x) ∧ ∃ q, w' = w.drewN q := by
  obtain ⟨xa, xl, xc, cx0, cx1, nx, _⟩ := hx.open
  have HX : Hid (BigAt w bx x) := hx
  clear hx nx cx1
  by_cases hneg : x < 0
  · rw [decide_eq_true hneg] at cx0
    go_enter Tryz.func20, Tryz.ntmps20
    go_wp2_with fail
    refine (Uint64_any bx x w HX.out (by omega)).mono ?_
    rintro e w1 ⟨rfl, q, rfl⟩
    go_wp2
    go_ret
    exact ⟨ret_int (by omega), q, rfl⟩
  · rw [decide_eq_false hneg] at cx0
    go_enter Tryz.func20, Tryz.ntmps20
    go_wp2_with fail
    refine (Uint64_any bx x w HX.out (by omega)).mono ?_
    rintro e w1 ⟨rfl, q, rfl⟩
    go_wp2
    go_ret
    exact ⟨ret_int (by omega), q, rfl⟩

theorem length_any (s : Value) (a m : Nat) (w : World) (ha : NS w s a) (hm : a < pw m) (hm' : m ≤ 100000000) :
    Calls Tryz.prog 45 #[s] w fun e w' => ∃ L : Nat, e = .returned (.int .i64 (L : Int)) ∧ a < 2 ^ L ∧ L ≤ 3200000000 ∧ w' = w := by
  obtain ⟨l, aa, g, cap, rfl, va, na, sa, pa, cell, _, lt⟩ := ha.open
  subst va
  have l1 : l.length ≤ 100000000 := Nat.le_trans (na.len hm) hm'
  by_cases h0 : l.length = 0
  · obtain rfl : l = [] := List.length_eq_zero_iff.1 h0
    clear ha pa cell lt hm
    go_enter Tryz.func45, Tryz.ntmps45
    go_wp2
    go_ret
    exact ⟨0, rfl, by simp [val], by omega, rfl⟩
  · refine (length_core l aa g cap w (by omega) l1 sa (pa (by omega)) (cell _ (by omega))).mono ?_
    rintro e w' ⟨t, rfl, hb, ht, rfl⟩
    refine ⟨_, rfl, ?_, by omega, rfl⟩
    have h1 := val_split l (l.length - 1) (by omega)
    have h2 := take_lt l (l.length - 1) (by omega) sa
    have h3 : val (l.drop (l.length - 1 + 1)) = 0 := by rw [List.drop_eq_nil_of_le (by omega)]; rfl
    rw [h3, Nat.mul_zero, Nat.add_zero] at h1
    have h4 := hb.lt
    rw [h1, Nat.pow_add, Nat.mul_comm (l.length - 1), ← pw_two_pow]
    have h5 : pw (l.length - 1) * (l.getD (l.length - 1) 0 + 1) ≤ pw (l.length - 1) * 2 ^ t := Nat.mul_le_mul_left _ h4
    rw [Nat.mul_add, Nat.mul_one] at h5
    omega

/-- One bit of a number, out of its word. -/
theorem bit_word (l : List Nat) (i : Nat) (h : ∀ x ∈ l, x < 4294967296) (hi : i / 32 < l.length) : l.getD (i / 32) 0 / 2 ^ (i % 32) % 2 = val l / 2 ^ i % 2 := by
  rw [val_drop_shift l h i (i / 32) (i % 32) (by omega) (by omega), drop_step l (i / 32) hi]
  generalize l.getD (i / 32) 0 = x
  generalize val (l.drop (i / 32 + 1)) = V
  have hr : i % 32 < 32 := Nat.mod_lt _ (by omega)
  obtain ⟨r, gr⟩ : ∃ r, r = i % 32 := ⟨_, rfl⟩
  rw [← gr] at hr ⊢
  have e : 4294967296 * V = 2 ^ r * (2 * (2 ^ (31 - r) * V)) := by
    have : 2 ^ r * 2 * 2 ^ (31 - r) = 4294967296 := by
      rw [← Nat.pow_succ, ← Nat.pow_add, show r + 1 + (31 - r) = 32 by omega]
    rw [← Nat.mul_assoc, ← Nat.mul_assoc, this]
  rw [e, Nat.add_mul_div_left _ _ (Nat.two_pow_pos r)]
  omega

theorem low_bit (x r : Nat) (hx : x < 4294967296) : bits .and .u64 (IntKind.u64.wrap ((x : Int) / 2 ^ r)) 1 = ((x / 2 ^ r % 2 : Nat) : Int) := by
  have e : (x : Int) / 2 ^ r = ((x / 2 ^ r : Nat) : Int) := by simp
  have h : x / 2 ^ r ≤ x := Nat.div_le_self ..
  rw [e]
  generalize x / 2 ^ r = y at *
  have hw : IntKind.u64.wrap (y : Int) = (y : Int) := wrapN y (by omega)
  rw [hw]
  have := bits_and_u64_nat y 1 (by omega) (by omega)
  rw [Nat.and_one_is_mod] at this
  exact this

theorem bit_none (A i : Nat) (h : A < 2 ^ i) : A / 2 ^ i % 2 = 0 := by rw [Nat.div_eq_of_lt h]

set_option maxHeartbeats 1000000 in
theorem bit_any (s : Value) (A i m : Nat) (w : World) (hs : NS w s A) (hm : A < pw m) (hm' : m ≤ 100000000) (hi : i ≤ 4000000000) :
    Calls Tryz.prog 46 #[s, .int .i64 i] w fun e w' => e = .returned (.int .u64 ((A / 2 ^ i % 2 : Nat) : Int)) ∧ ∃ q, w' = w.drewN q := by
  obtain ⟨l, aa, g, cap, rfl, va, na, sa, pa, cell, _, lt⟩ := hs.open
  subst va
  have l1 : l.length ≤ 100000000 := Nat.le_trans (na.len hm) hm'
  by_cases h0 : i / 32 < l.length
  · obtain rfl := pa (by omega)
    have c0 := cell _ h0
    have s0 := List.getD_lt_of sa (i / 32)
    have hb := bit_word l i sa h0
    have hr : i % 32 < 32 := Nat.mod_lt _ (by omega)
    rw [← hb]
    obtain ⟨k, gk⟩ : ∃ k, k = i / 32 := ⟨_, rfl⟩
    obtain ⟨r, gr⟩ : ∃ r, r = i % 32 := ⟨_, rfl⟩
    rw [← gk] at c0 s0 h0 ⊢
    rw [← gr] at hr ⊢
    obtain ⟨x, gx⟩ : ∃ x, x = l.getD k 0 := ⟨_, rfl⟩
    rw [← gx] at c0 s0 ⊢
    have ek : (i : Int) / 32 = (k : Int) := by omega
    have er : (i : Int) % 32 = (r : Int) := by omega
    clear hs hm lt cell pa sa na hb gk gr gx
    go_enter Tryz.func46, Tryz.ntmps46
    go_wp2
    go_ret
    exact ⟨ret_int (low_bit x r s0), 0, rfl⟩
  · have hz : val l / 2 ^ i % 2 = 0 := by
      refine bit_none _ _ ?_
      have h1 := val_lt l sa
      rw [pw_two_pow] at h1
      exact Nat.lt_of_lt_of_le h1 (Nat.pow_le_pow_right (by omega) (by omega))
    rw [hz]
    clear hs hm lt cell pa sa na hz
    go_enter Tryz.func46, Tryz.ntmps46
    go_wp2
    go_ret
    exact ⟨rfl, 0, rfl⟩

end Go.Proofs.YtidndbdjhapfaaaGreatDoor
