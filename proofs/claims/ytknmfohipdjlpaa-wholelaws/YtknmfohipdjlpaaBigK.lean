/- The contract of right of words. -/
import Derived.Test.YtknmfohipdjlpaaBigJ
set_option linter.unusedSimpArgs false
set_option linter.unusedVariables false
namespace Go.Proofs.Ytknmfohipdjlpaa
open Go.RowKit

theorem right_digit (x0 x1 Z s : Nat) (hs : s < 32) (h0 : x0 < 4294967296) : (x0 + 4294967296 * (x1 + 4294967296 * Z)) / 2 ^ s = (x0 + 4294967296 * x1) / 2 ^ s % 4294967296 + 4294967296 * ((x1 + 4294967296 * Z) / 2 ^ s) := by
  have hp : 0 < 2 ^ s := Nat.two_pow_pos s
  have e32 : (4294967296 : Nat) = 2 ^ (32 - s) * 2 ^ s := by rw [← Nat.pow_add, show 32 - s + s = 32 by omega]
  have e64 : (4294967296 : Nat) * 4294967296 = 2 ^ s * (4294967296 * 2 ^ (32 - s)) := by
    have : 2 ^ s * (4294967296 * 2 ^ (32 - s)) = 4294967296 * (2 ^ (32 - s) * 2 ^ s) := by simp only [Nat.mul_assoc, Nat.mul_comm, Nat.mul_left_comm]
    rw [this, ← e32]
  generalize hX : x0 + 4294967296 * (x1 + 4294967296 * Z) = X
  have h1 := Nat.div_add_mod (X / 2 ^ s) 4294967296
  have h2 : X / 2 ^ s / 4294967296 = (x1 + 4294967296 * Z) / 2 ^ s := by
    rw [Nat.div_div_eq_div_mul, Nat.mul_comm, ← Nat.div_div_eq_div_mul]
    congr 1
    omega
  have h3 : X / 2 ^ s = (x0 + 4294967296 * x1) / 2 ^ s + 4294967296 * 2 ^ (32 - s) * Z := by
    have : X = (x0 + 4294967296 * x1) + 2 ^ s * (4294967296 * 2 ^ (32 - s) * Z) := by
      rw [← hX, ← Nat.mul_assoc (2 ^ s), ← e64]; omega
    rw [this, Nat.add_mul_div_left _ _ hp]
  have h4 : X / 2 ^ s % 4294967296 = (x0 + 4294967296 * x1) / 2 ^ s % 4294967296 := by
    rw [h3, Nat.mul_assoc, Nat.add_mul_mod_self_left]
  rw [h2, h4] at h1
  omega

theorem right_step (D : List Nat) (k x0 x1 Z s T : Nat) (hs : s < 32) (h0 : x0 < 4294967296) (h : D.length = k) (hv : val D + pw k * ((x0 + 4294967296 * (x1 + 4294967296 * Z)) / 2 ^ s) = T) :
    val (D ++ [(x0 + 4294967296 * x1) / 2 ^ s % 4294967296]) + pw (k + 1) * ((x1 + 4294967296 * Z) / 2 ^ s) = T := by
  rw [right_digit x0 x1 Z s hs h0, Nat.mul_add] at hv
  have e1 : val (D ++ [(x0 + 4294967296 * x1) / 2 ^ s % 4294967296]) = val D + pw k * ((x0 + 4294967296 * x1) / 2 ^ s % 4294967296) := by rw [val_append, h]; simp [val]
  have e2 : pw (k + 1) * ((x1 + 4294967296 * Z) / 2 ^ s) = pw k * (4294967296 * ((x1 + 4294967296 * Z) / 2 ^ s)) := by
    show 4294967296 * pw k * _ = _
    rw [Nat.mul_comm 4294967296 (pw k), Nat.mul_assoc]
  omega

theorem val_drop_shift (l : List Nat) (h : ∀ x ∈ l, x < 4294967296) (n ww s : Nat) (hn : n = 32 * ww + s) (hw : ww ≤ l.length) : val l / 2 ^ n = val (l.drop ww) / 2 ^ s := by
  have e : val l = val (l.take ww) + pw ww * val (l.drop ww) := by
    have := val_append (l.take ww) (l.drop ww)
    rwa [List.take_append_drop, List.length_take, Nat.min_eq_left hw] at this
  have ht := take_lt l ww hw h
  rw [hn, Nat.pow_add, ← pw_two_pow, ← Nat.div_div_eq_div_mul, e, Nat.add_mul_div_left _ _ (pw_pos ww), Nat.div_eq_of_lt ht, Nat.zero_add]

set_option maxHeartbeats 1000000 in
theorem right_words (l : List Nat) (aa : Option Addr) (g cap n : Nat) (w : World) (hl1 : l.length ≤ 100000000) (hn : n ≤ 1000000000) (hw0 : n / 32 < l.length)
    (SA : Hid (∀ x ∈ l, x < 4294967296)) (PA : Hid (0 < l.length → aa = some ⟨g, 0, none⟩)) (CA : Hid (∀ i, i < l.length → w.cell? ⟨g, i, none⟩ = some (.int .u32 (l.getD i 0 : Int)))) (GA : Hid (0 < l.length → g < w.heap.size)) :
    Calls Try.prog 78 #[.slice aa l.length cap, .int .u64 n] w fun e w' => ∃ r, e = .returned r ∧ NS w' r (val l / 2 ^ n) ∧ Below w.heap.size w w' := by
  obtain rfl := PA.out (by omega)
  have gA := GA.out (by omega)
  obtain ⟨ww, hww⟩ : ∃ ww, ww = n / 32 := ⟨_, rfl⟩
  obtain ⟨s, hs⟩ : ∃ s, s = n % 32 := ⟨_, rfl⟩
  rw [← hww] at hw0
  have HNS : Hid (n = 32 * ww + s) := by show _ = _; omega
  have s32 : s < 32 := by omega
  have eW : (n : Int) / 32 = (ww : Int) := by omega
  have eS : (n : Int) % 32 = (s : Int) := by omega
  obtain ⟨ln, hln⟩ : ∃ ln, ln = l.length - ww := ⟨_, rfl⟩
  have hln1 : l.length = ln + ww := by omega
  have HLN1 : Hid (l.length = ln + ww) := hln1
  have eL : (l.length : Int) - (ww : Int) = (ln : Int) := by omega
  have hlb1 : l.length ≤ ln + ww := by omega
  have hlb2 : ln + ww ≤ l.length := by omega
  clear hww hs PA GA hln hln1
  go_enter Try.func78, Try.ntmps78
  obtain ⟨i0, hi, hz0, hz1, hz2⟩ := info_parts Try.info32
  go_wp2_with (at_make; refine wpList_make_full _ rfl _ _ 47 rfl w.heap.size 66 i0 (.int .u32 0) 1 Try.underlying47 hi hz0 hz1 .i64 .i64 _ _ ln rfl rfl (by omega) (by omega) (by rw [hz2]; omega) (by unfold maxLen; omega) (Nat.le_refl _) ?_)
  intro w1 hown hgrow
  have hrow := Row.of_make hown
  have hbel : Below w.heap.size w w1 := (Below.refl _ _).grown hgrow (Nat.le_refl _) (by simp)
  have HR : Hid (Row w1 w.heap.size (List.replicate ln 0)) := hrow
  have HB : Hid (Below w.heap.size w w1) := hbel
  clear hown hgrow hrow hbel hi hz0 hz1 hz2 eW eS eL
  go_wp2
  go_loopw [8] (fun i wr => ∃ (k : Nat) (D : List Nat), k ≤ ln ∧ i = .int .i64 k ∧ D.length = k ∧ (∀ x ∈ D, x < 4294967296) ∧ val D + pw k * (val (l.drop (k + ww)) / 2 ^ s) = val (l.drop ww) / 2 ^ s ∧ Row wr w.heap.size (D ++ List.replicate (ln - k) 0) ∧ Below w.heap.size w wr) (fun i _ => ln - (intOf i).toNat)
  case atStart => exact ⟨0, [], Nat.zero_le _, rfl, rfl, by simp, by simp [val, pw], by simpa using HR.out, HB.out⟩
  case round =>
    obtain ⟨k, D, hk, rfl, hD, hDs, hv, hrow, hbel⟩ := hrel
    have HV : Hid (val D + pw k * (val (l.drop (k + ww)) / 2 ^ s) = val (l.drop ww) / 2 ^ s) := hv
    have HD : Hid (D.length = k) := hD
    have HDs : Hid (∀ x ∈ D, x < 4294967296) := hDs
    have HRo : Hid (Row wr w.heap.size (D ++ List.replicate (ln - k) 0)) := hrow
    have HBr : Hid (Below w.heap.size w wr) := hbel
    have hsz : (D ++ List.replicate (ln - k) 0).length = ln := by simp; omega
    clear hv hDs hbel HR HB
    by_cases hlt : k < ln
    · have cr : wr.cell? ⟨w.heap.size, k, none⟩ = some (.int .u32 ((D ++ List.replicate (ln - k) 0).getD k 0 : Int)) := hrow.cell k (by omega)
      have fr : wr.frozen? ⟨w.heap.size, k, none⟩ = false := hrow.frozen k
      generalize hqq : ((D ++ List.replicate (ln - k) 0).getD k 0 : Int) = qq at cr
      have ca : wr.cell? ⟨g, k + ww, none⟩ = some (.int .u32 (l.getD (k + ww) 0 : Int)) := (HBr.out.cell (p := ⟨g, k + ww, none⟩) gA).trans (CA.out (k + ww) (by omega))
      have sx := List.getD_lt_of SA.out (k + ww)
      have sy := List.getD_lt_of SA.out (k + ww + 1)
      have hds := drop_step l (k + ww) (by omega)
      obtain ⟨x, hx⟩ : ∃ x, x = l.getD (k + ww) 0 := ⟨_, rfl⟩
      obtain ⟨y, hy⟩ : ∃ y, y = l.getD (k + ww + 1) 0 := ⟨_, rfl⟩
      have ho := or_low x y (by omega) (by omega)
      have hlast : val (l.drop (k + ww + 1)) = y + 4294967296 * val (l.drop (k + ww + 1 + 1)) := by
        by_cases hin : k + ww + 1 < l.length
        · rw [hy]; exact drop_step l (k + ww + 1) hin
        · have e1 : l.drop (k + ww + 1) = [] := List.drop_eq_nil_of_le (by omega)
          have e2 : l.drop (k + ww + 1 + 1) = [] := List.drop_eq_nil_of_le (by omega)
          have e3 : y = 0 := by rw [hy, List.getD_eq_getElem?_getD, List.getElem?_eq_none (by omega)]; rfl
          rw [e1, e2, e3]; simp [val]
      rw [← hx] at ca sx hds
      rw [← hy] at sy
      have HS2 : Hid (val (D ++ [(x + 4294967296 * y) / 2 ^ s % 4294967296]) + pw (k + 1) * (val (l.drop (k + 1 + ww)) / 2 ^ s) = val (l.drop ww) / 2 ^ s) := by
        show _ = _
        have h1 := HV.out
        rw [hds, hlast] at h1
        rw [show k + 1 + ww = k + ww + 1 by omega, hlast]
        exact right_step D k x y _ s _ s32 sx HD.out h1
      obtain ⟨v, gv⟩ : ∃ v, v = x + 4294967296 * y := ⟨_, rfl⟩
      rw [← gv] at ho HS2
      have hvb : (v : Int) ≤ 18446744073709551615 := by omega
      have eD : (v : Int) / 2 ^ s = ((v / 2 ^ s : Nat) : Int) := by simp
      obtain ⟨vs, gvs⟩ : ∃ vs, vs = v / 2 ^ s := ⟨_, rfl⟩
      rw [← gvs] at eD HS2
      have hvs : vs ≤ v := by rw [gvs]; exact Nat.div_le_self ..
      by_cases hin : k + ww + 1 < l.length
      · have cb : wr.cell? ⟨g, k + ww + 1, none⟩ = some (.int .u32 (l.getD (k + ww + 1) 0 : Int)) := (HBr.out.cell (p := ⟨g, k + ww + 1, none⟩) gA).trans (CA.out (k + ww + 1) hin)
        rw [← hy] at cb
        clear hqq hx hy hrow hsz hD hds hlast gv gvs
        go_wp2
        go_roundw
        case rel =>
          refine ⟨k + 1, D ++ [vs % 4294967296], by omega, by go_num, by simp [HD.out], mem_snoc HDs.out (by omega), HS2.out, ?_, ?_⟩
          · have e : ln - k = (ln - (k + 1)) + 1 := by omega
            have := HRo.out
            rw [e] at this
            rw [← set_app D _ _ k HD.out]
            exact this.set k _ _ (by omega)
          · exact HBr.out.setCell (Nat.le_refl _) _
        case measure => simp [intOf]; omega
      · have hy0 : y = 0 := by rw [hy, List.getD_eq_getElem?_getD, List.getElem?_eq_none (by omega)]; rfl
        obtain rfl : v = x := by rw [gv, hy0]; omega
        clear hqq hx hy hrow hsz hD hds hlast gv gvs ho hy0
        go_wp2
        go_roundw
        case rel =>
          refine ⟨k + 1, D ++ [vs % 4294967296], by omega, by go_num, by simp [HD.out], mem_snoc HDs.out (by omega), HS2.out, ?_, ?_⟩
          · have e : ln - k = (ln - (k + 1)) + 1 := by omega
            have := HRo.out
            rw [e] at this
            rw [← set_app D _ _ k HD.out]
            exact this.set k _ _ (by omega)
          · exact HBr.out.setCell (Nat.le_refl _) _
        case measure => simp [intOf]; omega
    · obtain rfl : k = ln := by omega
      have hrow2 : Row wr w.heap.size D := by simpa using hrow
      have hsl := hrow2.sl HDs.out
      rw [hD] at hsl
      have HSL : Hid (Sl wr (.slice (some ⟨w.heap.size, 0, none⟩) k k) D) := hsl
      have HVV : Hid (val D = val l / 2 ^ n) := by
        show _ = _
        rw [val_drop_shift l SA.out n ww s HNS.out (by omega)]
        have h1 := HV.out
        have e1 : l.drop (k + ww) = [] := List.drop_eq_nil_of_le (by omega)
        rw [e1] at h1
        simpa [val] using h1
      have HLN : Hid (D.length ≤ 1000000000) := by show _ ≤ _; omega
      clear hsl hrow2 hrow hsz hD
      go_wp2_with fail
      refine (trim_any D _ _ HLN.out HSL.out).mono ?_
      rw [HVV.out]
      rintro e w2 ⟨s', rfl, hns, rfl⟩
      go_wp2
      go_ret
      exact ⟨s', rfl, hns, HBr.out⟩

theorem rightW_any (s : Value) (a n m : Nat) (w : World) (ha : NS w s a) (hm : a < pw m) (hm' : m ≤ 100000000) (hn : n ≤ 1000000000) :
    Calls Try.prog 78 #[s, .int .u64 n] w fun e w' => ∃ r, e = .returned r ∧ NS w' r (a / 2 ^ n) ∧ Below w.heap.size w w' := by
  obtain ⟨l, aa, g, cap, rfl, va, na, sa, pa, cell, _, lt⟩ := ha.open
  subst va
  have l1 : l.length ≤ 100000000 := Nat.le_trans (na.len hm) hm'
  by_cases h0 : n / 32 < l.length
  · exact right_words l aa g cap n w l1 hn h0 sa pa cell lt
  · have HZ : Hid (val l / 2 ^ n = 0) := by
      show _ = _
      refine Nat.div_eq_of_lt (Nat.lt_of_lt_of_le (val_lt l sa) ?_)
      rw [pw_two_pow]; exact Nat.pow_le_pow_right (by omega) (by omega)
    rw [HZ.out]
    have h1 : (l.length : Int) ≤ (n : Int) / 32 := by omega
    clear ha pa cell lt hm sa na h0
    go_enter Try.func78, Try.ntmps78
    go_wp2
    go_ret
    exact ⟨_, rfl, ⟨[], ⟨by simp, Or.inl ⟨rfl, rfl⟩⟩, rfl, Or.inl rfl⟩, Below.refl _ _⟩

end Go.Proofs.Ytknmfohipdjlpaa
