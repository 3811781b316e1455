import Derived.Test.YtcnfhndejkngkaaGreatDoorBigJ
import Derived.Test.YtcnfhndejkngkaaGreatDoorJpC
section
set_option linter.unusedSimpArgs false
set_option linter.unusedVariables false
set_option maxRecDepth 100000
namespace Go.Proofs.YtcnfhndejkngkaaGreatDoor
open Go.RowKit
theorem right_digit (x0 x1 Z s : Nat) (hs : s < 32) (h0 : x0 < 4294967296) : (x0 + 4294967296 * (x1 + 4294967296 * Z)) / 2 ^ s = (x0 + 4294967296 * x1) / 2 ^ s % 4294967296 + 4294967296 * ((x1 + 4294967296 * Z) / 2 ^ s) := by
  have hp : 0 < 2 ^ s := Nat.two_pow_pos s
  have e32 : (4294967296 : Nat) = 2 ^ (32 - s) * 2 ^ s := by rw [← Nat.pow_add, show 32 - s + s = 32 by omega]
  have e64 : (4294967296 : Nat) * 4294967296 = 2 ^ s * (4294967296 * 2 ^ (32 - s)) := by
    have : 2 ^ s * (4294967296 * 2 ^ (32 - s)) = 4294967296 * (2 ^ (32 - s) * 2 ^ s) := by simp only [Nat.mul_assoc, Nat.mul_comm, Nat.mul_left_comm]
    rw [this, ← e32]
  generalize hX : x0 + 4294967296 * (x1 + 4294967296 * Z) = X
  have h1 := Nat.div_add_mod (X / 2 ^ s) 4294967296
  have h2 : X / 2 ^ s / 4294967296 = (x1 + 4294967296 * Z) / 2 ^ s := by
    rw [Nat.div_div_eq_div_mul, Nat.mul_comm, ← Nat.div_div_eq_div_mul]
    congr 1
    omega
  have h3 : X / 2 ^ s = (x0 + 4294967296 * x1) / 2 ^ s + 4294967296 * 2 ^ (32 - s) * Z := by
    have : X = (x0 + 4294967296 * x1) + 2 ^ s * (4294967296 * 2 ^ (32 - s) * Z) := by
      rw [← hX, ← Nat.mul_assoc (2 ^ s), ← e64]; omega
    rw [this, Nat.add_mul_div_left _ _ hp]
  have h4 : X / 2 ^ s % 4294967296 = (x0 + 4294967296 * x1) / 2 ^ s % 4294967296 := by
    rw [h3, Nat.mul_assoc, Nat.add_mul_mod_self_left]
  rw [h2, h4] at h1
  omega
theorem right_step (D : List Nat) (k x0 x1 Z s T : Nat) (hs : s < 32) (h0 : x0 < 4294967296) (h : D.length = k) (hv : val D + pw k * ((x0 + 4294967296 * (x1 + 4294967296 * Z)) / 2 ^ s) = T) :
    val (D ++ [(x0 + 4294967296 * x1) / 2 ^ s % 4294967296]) + pw (k + 1) * ((x1 + 4294967296 * Z) / 2 ^ s) = T := by
  rw [right_digit x0 x1 Z s hs h0, Nat.mul_add] at hv
  have e1 : val (D ++ [(x0 + 4294967296 * x1) / 2 ^ s % 4294967296]) = val D + pw k * ((x0 + 4294967296 * x1) / 2 ^ s % 4294967296) := by rw [val_append, h]; simp [val]
  have e2 : pw (k + 1) * ((x1 + 4294967296 * Z) / 2 ^ s) = pw k * (4294967296 * ((x1 + 4294967296 * Z) / 2 ^ s)) := by
    show 4294967296 * pw k * _ = _
    rw [Nat.mul_comm 4294967296 (pw k), Nat.mul_assoc]
  omega
theorem val_drop_shift (l : List Nat) (h : ∀ x ∈ l, x < 4294967296) (n ww s : Nat) (hn : n = 32 * ww + s) (hw : ww ≤ l.length) : val l / 2 ^ n = val (l.drop ww) / 2 ^ s := by
  have e : val l = val (l.take ww) + pw ww * val (l.drop ww) := by
    have := val_append (l.take ww) (l.drop ww)
    rwa [List.take_append_drop, List.length_take, Nat.min_eq_left hw] at this
  have ht := take_lt l ww hw h
  rw [hn, Nat.pow_add, ← pw_two_pow, ← Nat.div_div_eq_div_mul, e, Nat.add_mul_div_left _ _ (pw_pos ww), Nat.div_eq_of_lt ht, Nat.zero_add]
set_option maxHeartbeats 1000000 in
theorem right_words (l : List Nat) (aa : Option Addr) (g cap n : Nat) (w : World) (hl1 : l.length ≤ 100000000) (hn : n ≤ 1000000000) (hw0 : n / 32 < l.length)
    (SA : Hid (∀ x ∈ l, x < 4294967296)) (PA : Hid (0 < l.length → aa = some ⟨g, 0, none⟩)) (CA : Hid (∀ i, i < l.length → w.cell? ⟨g, i, none⟩ = some (.int .u32 (l.getD i 0 : Int)))) (GA : Hid (0 < l.length → g < w.heap.size)) :
    Calls Tryz.prog 120 #[.slice aa l.length cap, .int .u64 n] w fun e w' => ∃ r, e = .returned r ∧ NS w' r (val l / 2 ^ n) ∧ Below w.heap.size w w' := by
  obtain rfl := PA.out (by omega)
  have gA := GA.out (by omega)
  obtain ⟨ww, hww⟩ : ∃ ww, ww = n / 32 := ⟨_, rfl⟩
  obtain ⟨s, hs⟩ : ∃ s, s = n % 32 := ⟨_, rfl⟩
  rw [← hww] at hw0
  have HNS : Hid (n = 32 * ww + s) := by show _ = _; omega
  have s32 : s < 32 := by omega
  have eW : (n : Int) / 32 = (ww : Int) := by omega
  have eS : (n : Int) % 32 = (s : Int) := by omega
  obtain ⟨ln, hln⟩ : ∃ ln, ln = l.length - ww := ⟨_, rfl⟩
  have hln1 : l.length = ln + ww := by omega
  have HLN1 : Hid (l.length = ln + ww) := hln1
  have eL : (l.length : Int) - (ww : Int) = (ln : Int) := by omega
  have hlb1 : l.length ≤ ln + ww := by omega
  have hlb2 : ln + ww ≤ l.length := by omega
  clear hww hs PA GA hln hln1
  go_enter Tryz.func120, Tryz.ntmps120
  obtain ⟨i0, hi, hz0, hz1, hz2⟩ := info_parts Tryz.info32
  go_wp2_with (at_make; refine wpList_make_full _ rfl _ _ 53 rfl w.heap.size 106 i0 (.int .u32 0) 1 Tryz.underlying53 hi hz0 hz1 .i64 .i64 _ _ ln rfl rfl (by omega) (by omega) (by rw [hz2]; omega) (by unfold maxLen; omega) (Nat.le_refl _) ?_)
  intro w1 hown hgrow
  have hrow := Row.of_make hown
  have hbel : Below w.heap.size w w1 := (Below.refl _ _).grown hgrow (Nat.le_refl _) (by simp)
  have HR : Hid (Row w1 w.heap.size (List.replicate ln 0)) := hrow
  have HB : Hid (Below w.heap.size w w1) := hbel
  clear hown hgrow hrow hbel hi hz0 hz1 hz2 eW eS eL
  go_wp2
  go_loopw [8] (fun i wr => ∃ (k : Nat) (D : List Nat), k ≤ ln ∧ i = .int .i64 k ∧ D.length = k ∧ (∀ x ∈ D, x < 4294967296) ∧ val D + pw k * (val (l.drop (k + ww)) / 2 ^ s) = val (l.drop ww) / 2 ^ s ∧ Row wr w.heap.size (D ++ List.replicate (ln - k) 0) ∧ Below w.heap.size w wr) (fun i _ => ln - (intOf i).toNat)
  case atStart => exact ⟨0, [], Nat.zero_le _, rfl, rfl, by simp, by simp [val, pw], by simpa using HR.out, HB.out⟩
  case round =>
    obtain ⟨k, D, hk, rfl, hD, hDs, hv, hrow, hbel⟩ := hrel
    have HV : Hid (val D + pw k * (val (l.drop (k + ww)) / 2 ^ s) = val (l.drop ww) / 2 ^ s) := hv
    have HD : Hid (D.length = k) := hD
    have HDs : Hid (∀ x ∈ D, x < 4294967296) := hDs
    have HRo : Hid (Row wr w.heap.size (D ++ List.replicate (ln - k) 0)) := hrow
    have HBr : Hid (Below w.heap.size w wr) := hbel
    have hsz : (D ++ List.replicate (ln - k) 0).length = ln := by simp; omega
    clear hv hDs hbel HR HB
    by_cases hlt : k < ln
    · have cr : wr.cell? ⟨w.heap.size, k, none⟩ = some (.int .u32 ((D ++ List.replicate (ln - k) 0).getD k 0 : Int)) := hrow.cell k (by omega)
      have fr : wr.frozen? ⟨w.heap.size, k, none⟩ = false := hrow.frozen k
      generalize hqq : ((D ++ List.replicate (ln - k) 0).getD k 0 : Int) = qq at cr
      have ca : wr.cell? ⟨g, k + ww, none⟩ = some (.int .u32 (l.getD (k + ww) 0 : Int)) := (HBr.out.cell (p := ⟨g, k + ww, none⟩) gA).trans (CA.out (k + ww) (by omega))
      have sx := List.getD_lt_of SA.out (k + ww)
      have sy := List.getD_lt_of SA.out (k + ww + 1)
      have hds := drop_step l (k + ww) (by omega)
      obtain ⟨x, hx⟩ : ∃ x, x = l.getD (k + ww) 0 := ⟨_, rfl⟩
      obtain ⟨y, hy⟩ : ∃ y, y = l.getD (k + ww + 1) 0 := ⟨_, rfl⟩
      have ho := or_low x y (by omega) (by omega)
      have hlast : val (l.drop (k + ww + 1)) = y + 4294967296 * val (l.drop (k + ww + 1 + 1)) := by
        by_cases hin : k + ww + 1 < l.length
        · rw [hy]; exact drop_step l (k + ww + 1) hin
        · have e1 : l.drop (k + ww + 1) = [] := List.drop_eq_nil_of_le (by omega)
          have e2 : l.drop (k + ww + 1 + 1) = [] := List.drop_eq_nil_of_le (by omega)
          have e3 : y = 0 := by rw [hy, List.getD_eq_getElem?_getD, List.getElem?_eq_none (by omega)]; rfl
          rw [e1, e2, e3]; simp [val]
      rw [← hx] at ca sx hds
      rw [← hy] at sy
      have HS2 : Hid (val (D ++ [(x + 4294967296 * y) / 2 ^ s % 4294967296]) + pw (k + 1) * (val (l.drop (k + 1 + ww)) / 2 ^ s) = val (l.drop ww) / 2 ^ s) := by
        show _ = _
        have h1 := HV.out
        rw [hds, hlast] at h1
        rw [show k + 1 + ww = k + ww + 1 by omega, hlast]
        exact right_step D k x y _ s _ s32 sx HD.out h1
      obtain ⟨v, gv⟩ : ∃ v, v = x + 4294967296 * y := ⟨_, rfl⟩
      rw [← gv] at ho HS2
      have hvb : (v : Int) ≤ 18446744073709551615 := by omega
      have eD : (v : Int) / 2 ^ s = ((v / 2 ^ s : Nat) : Int) := by simp
      obtain ⟨vs, gvs⟩ : ∃ vs, vs = v / 2 ^ s := ⟨_, rfl⟩
      rw [← gvs] at eD HS2
      have hvs : vs ≤ v := by rw [gvs]; exact Nat.div_le_self ..
      by_cases hin : k + ww + 1 < l.length
      · have cb : wr.cell? ⟨g, k + ww + 1, none⟩ = some (.int .u32 (l.getD (k + ww + 1) 0 : Int)) := (HBr.out.cell (p := ⟨g, k + ww + 1, none⟩) gA).trans (CA.out (k + ww + 1) hin)
        rw [← hy] at cb
        clear hqq hx hy hrow hsz hD hds hlast gv gvs
        go_wp2
        go_roundw
        case rel =>
          refine ⟨k + 1, D ++ [vs % 4294967296], by omega, by go_num, by simp [HD.out], mem_snoc HDs.out (by omega), HS2.out, ?_, ?_⟩
          · have e : ln - k = (ln - (k + 1)) + 1 := by omega
            have := HRo.out
            rw [e] at this
            rw [← set_app D _ _ k HD.out]
            exact this.set k _ _ (by omega)
          · exact HBr.out.setCell (Nat.le_refl _) _
        case measure => simp [intOf]; omega
      · have hy0 : y = 0 := by rw [hy, List.getD_eq_getElem?_getD, List.getElem?_eq_none (by omega)]; rfl
        obtain rfl : v = x := by rw [gv, hy0]; omega
        clear hqq hx hy hrow hsz hD hds hlast gv gvs ho hy0
        go_wp2
        go_roundw
        case rel =>
          refine ⟨k + 1, D ++ [vs % 4294967296], by omega, by go_num, by simp [HD.out], mem_snoc HDs.out (by omega), HS2.out, ?_, ?_⟩
          · have e : ln - k = (ln - (k + 1)) + 1 := by omega
            have := HRo.out
            rw [e] at this
            rw [← set_app D _ _ k HD.out]
            exact this.set k _ _ (by omega)
          · exact HBr.out.setCell (Nat.le_refl _) _
        case measure => simp [intOf]; omega
    · obtain rfl : k = ln := by omega
      have hrow2 : Row wr w.heap.size D := by simpa using hrow
      have hsl := hrow2.sl HDs.out
      rw [hD] at hsl
      have HSL : Hid (Sl wr (.slice (some ⟨w.heap.size, 0, none⟩) k k) D) := hsl
      have HVV : Hid (val D = val l / 2 ^ n) := by
        show _ = _
        rw [val_drop_shift l SA.out n ww s HNS.out (by omega)]
        have h1 := HV.out
        have e1 : l.drop (k + ww) = [] := List.drop_eq_nil_of_le (by omega)
        rw [e1] at h1
        simpa [val] using h1
      have HLN : Hid (D.length ≤ 1000000000) := by show _ ≤ _; omega
      clear hsl hrow2 hrow hsz hD
      go_wp2_with fail
      refine (trim_any D _ _ HLN.out HSL.out).mono ?_
      rw [HVV.out]
      rintro e w2 ⟨s', rfl, hns, rfl⟩
      go_wp2
      go_ret
      exact ⟨s', rfl, hns, HBr.out⟩
theorem rightW_any (s : Value) (a n m : Nat) (w : World) (ha : NS w s a) (hm : a < pw m) (hm' : m ≤ 100000000) (hn : n ≤ 1000000000) :
    Calls Tryz.prog 120 #[s, .int .u64 n] w fun e w' => ∃ r, e = .returned r ∧ NS w' r (a / 2 ^ n) ∧ Below w.heap.size w w' := by
  obtain ⟨l, aa, g, cap, rfl, va, na, sa, pa, cell, _, lt⟩ := ha.open
  subst va
  have l1 : l.length ≤ 100000000 := Nat.le_trans (na.len hm) hm'
  by_cases h0 : n / 32 < l.length
  · exact right_words l aa g cap n w l1 hn h0 sa pa cell lt
  · have HZ : Hid (val l / 2 ^ n = 0) := by
      show _ = _
      refine Nat.div_eq_of_lt (Nat.lt_of_lt_of_le (val_lt l sa) ?_)
      rw [pw_two_pow]; exact Nat.pow_le_pow_right (by omega) (by omega)
    rw [HZ.out]
    have h1 : (l.length : Int) ≤ (n : Int) / 32 := by omega
    clear ha pa cell lt hm sa na h0
    go_enter Tryz.func120, Tryz.ntmps120
    go_wp2
    go_ret
    exact ⟨_, rfl, ⟨[], ⟨by simp, Or.inl ⟨rfl, rfl⟩⟩, rfl, Or.inl rfl⟩, Below.refl _ _⟩
end Go.Proofs.YtcnfhndejkngkaaGreatDoor
end

section
set_option linter.unusedSimpArgs false
set_option linter.unusedVariables false
set_option maxRecDepth 100000
namespace Go.Proofs.YtcnfhndejkngkaaGreatDoor.MathD
structure Kg (u v1 gs q r : Nat) : Prop where
  lin : q * v1 + r = u
  up : gs ≤ q
theorem kg_step {u v1 v0 n gs q r : Nat} (h : Kg u v1 gs q r) (hgs : gs < 4294967296) (hH : gs * (v1 * 4294967296 + v0) ≤ u * 4294967296 + n) (hc : 4294967296 ≤ q ∨ 4294967296 * r + n < q * v0) :
    1 ≤ q ∧ Kg u v1 gs (q - 1) (r + v1) := by
  have hlin := h.lin
  have hlt : gs < q := by
    rcases hc with hc | hc
    · omega
    · rcases Nat.lt_or_ge gs q with c | c
      · exact c
      · have h1 : q * (v1 * 4294967296 + v0) ≤ gs * (v1 * 4294967296 + v0) := Nat.mul_le_mul_right _ c
        have e : q * (v1 * 4294967296 + v0) = q * v1 * 4294967296 + q * v0 := by rw [Nat.mul_add, Nat.mul_assoc]
        rw [e] at h1; omega
  refine ⟨by omega, ?_, by omega⟩
  obtain ⟨k, rfl⟩ : ∃ k, q = k + 1 := ⟨q - 1, by omega⟩
  rw [Nat.add_mul] at hlin
  simp only [Nat.add_sub_cancel]; omega
theorem kg_low {u v1 v0 gs q r : Nat} (h : Kg u v1 gs q r) (hu : u ≤ v1 * 4294967296 + v0) (h0 : v0 < 4294967296) (hr : 4294967296 ≤ r) : q < 4294967296 := by
  have hlin := h.lin
  rcases Nat.lt_or_ge q 4294967296 with c | c
  · exact c
  · have : 4294967296 * v1 ≤ q * v1 := Nat.mul_le_mul_right _ c
    omega
theorem kg_end {u v1 v0 n gs q r : Nat} (h : Kg u v1 gs q r) (hu : u ≤ v1 * 4294967296 + v0) (h0 : v0 < 4294967296) (hc : (q < 4294967296 ∧ q * v0 ≤ 4294967296 * r + n) ∨ 4294967296 ≤ r) :
    gs ≤ q ∧ q < 4294967296 ∧ q * (v1 * 4294967296 + v0) ≤ u * 4294967296 + n := by
  have hlin := h.lin
  have hq : q < 4294967296 := by
    rcases hc with hc | hc
    · exact hc.1
    · exact kg_low h hu h0 hc
  have hc' : q * v0 ≤ 4294967296 * r + n := by
    rcases hc with hc | hc
    · exact hc.2
    · have := Nat.mul_le_mul (show q ≤ 4294967295 by omega) (show v0 ≤ 4294967295 by omega)
      omega
  refine ⟨h.up, hq, ?_⟩
  rw [Nat.mul_add, ← Nat.mul_assoc]; omega
theorem guess_near {T H p lv lw q V W : Nat} (hV : V = T * p + lv) (hW : W = H * p + lw) (hlv : lv < p) (hT : 4294967296 ≤ T) (hq : q < 4294967296) (h : q * T ≤ H) : q * V < W + V := by
  subst hV hW
  have e1 : q * (T * p + lv) = q * T * p + q * lv := by rw [Nat.mul_add, Nat.mul_assoc]
  have e2 : q * T * p ≤ H * p := Nat.mul_le_mul_right _ h
  have e3 : q * lv ≤ 4294967296 * lv := Nat.mul_le_mul_right _ (by omega)
  have e4 : 4294967296 * p ≤ T * p := Nat.mul_le_mul_right _ hT
  omega
theorem digit_fits {T H p lv lw gs V W : Nat} (hV : V = T * p + lv) (hW : W = H * p + lw) (hlw : lw < p) (h : gs * V ≤ W) : gs * T ≤ H := by
  subst hV hW
  have e1 : gs * T * p ≤ gs * (T * p + lv) := by rw [Nat.mul_assoc]; exact Nat.mul_le_mul_left _ (by omega)
  rcases Nat.lt_or_ge H (gs * T) with c | c
  · have : (H + 1) * p ≤ gs * T * p := Nat.mul_le_mul_right _ c
    rw [Nat.add_mul] at this; omega
  · exact c
theorem first_le {T H h u2 p lv lw V W : Nat} (hV : V = T * p + lv) (hW : W = H * p + lw) (hlv : lv < p) (hH : H = h * 4294967296 + u2) (hlt : W < 4294967296 * V) : h ≤ T := by
  subst hV hW hH
  rcases Nat.lt_or_ge T h with c | c
  · have h1 : (T + 1) * 4294967296 ≤ h * 4294967296 := Nat.mul_le_mul_right _ c
    have h2 : (T + 1) * 4294967296 * p ≤ (h * 4294967296 + u2) * p := Nat.mul_le_mul_right p (Nat.le_trans h1 (Nat.le_add_right _ _))
    have h3 : (T + 1) * 4294967296 * p = 4294967296 * (T * p + p) := by rw [Nat.mul_right_comm, Nat.mul_comm _ 4294967296, Nat.add_mul, Nat.one_mul]
    have h4 : 4294967296 * (T * p + lv) ≤ 4294967296 * (T * p + p) := Nat.mul_le_mul_left _ (by omega)
    omega
  · exact c
theorem take_step (Y : List Nat) (i g c d x vi y d2 S T : Nat) (h : Y.length = i) (hv : val Y + g * T = S + pw i * (c + d)) (hy : y + (c + g * vi) % 4294967296 + d = x + 4294967296 * d2) :
    val (Y ++ [y]) + g * (T + pw i * vi) = (S + pw i * x) + pw (i + 1) * ((c + g * vi) / 4294967296 + d2) := by
  have e1 : val (Y ++ [y]) = val Y + pw i * y := by rw [val_append, h]; simp [val]
  have e2 : pw (i + 1) * ((c + g * vi) / 4294967296 + d2) = pw i * (4294967296 * ((c + g * vi) / 4294967296 + d2)) := by
    show 4294967296 * pw i * _ = _
    rw [Nat.mul_comm 4294967296 (pw i), Nat.mul_assoc]
  have e3 : g * (T + pw i * vi) = g * T + pw i * (g * vi) := by rw [Nat.mul_add, Nat.mul_left_comm]
  have hdm := Nat.div_add_mod (c + g * vi) 4294967296
  have e4 : pw i * (y + g * vi + (c + d)) = pw i * (x + 4294967296 * ((c + g * vi) / 4294967296 + d2)) := by
    congr 1
    omega
  have e5 : pw i * (y + g * vi + (c + d)) = pw i * y + pw i * (g * vi) + pw i * (c + d) := by rw [Nat.mul_add, Nat.mul_add]
  have e6 : pw i * (x + 4294967296 * ((c + g * vi) / 4294967296 + d2)) = pw i * x + pw i * (4294967296 * ((c + g * vi) / 4294967296 + d2)) := Nat.mul_add ..
  rw [e1, e2, e3]
  omega
theorem take_right {X Y : List Nat} {n g c d xn V W gs : Nat} (hv : val Y + g * V = val X + pw n * (c + d)) (hW : W = val X + pw n * xn) (hVn : V < pw n) (hge : c + d ≤ xn) (h1 : gs ≤ g) (h2 : W < (gs + 1) * V) (h3 : gs * V ≤ W) :
    xn = c + d ∧ g = gs ∧ val Y = W - gs * V ∧ val Y < V := by
  have e1 : pw n * xn = pw n * (xn - (c + d)) + pw n * (c + d) := by rw [← Nat.mul_add]; congr 1; omega
  have h4 : W = val Y + g * V + pw n * (xn - (c + d)) := by rw [hW, e1]; omega
  have h5 : (gs + 1) * V = gs * V + V := by rw [Nat.add_mul, Nat.one_mul]
  have h6 : gs * V ≤ g * V := Nat.mul_le_mul_right _ h1
  have h7 : xn - (c + d) = 0 := by
    rcases Nat.eq_zero_or_pos (xn - (c + d)) with k | k
    · exact k
    · have : pw n * 1 ≤ pw n * (xn - (c + d)) := Nat.mul_le_mul_left _ k
      omega
  have h8 : g = gs := by
    rcases Nat.lt_or_ge gs g with k | k
    · have : (gs + 1) * V ≤ g * V := Nat.mul_le_mul_right _ k
      omega
    · omega
  subst h8
  rw [h7, Nat.mul_zero] at h4
  exact ⟨by omega, rfl, by omega, by omega⟩
theorem take_back {X Y Y2 : List Nat} {n g c d xn V W gs k : Nat} (hv : val Y + g * V = val X + pw n * (c + d)) (hW : W = val X + pw n * xn) (hVn : V < pw n) (hlt : xn < c + d) (hY : val Y < pw n) (h1 : gs ≤ g) (hn : g * V < W + V) (h2 : W < (gs + 1) * V) (h3 : gs * V ≤ W)
    (hb : val Y + V = val Y2 + pw n * k) (hY2 : val Y2 < pw n) : g = gs + 1 ∧ xn + k = c + d ∧ val Y2 = W - gs * V ∧ val Y2 < V := by
  have e1 : pw n * (c + d) = pw n * (c + d - xn) + pw n * xn := by rw [← Nat.mul_add]; congr 1; omega
  have h4 : W + pw n * (c + d - xn) = val Y + g * V := by rw [hW]; omega
  have h5 : (gs + 1) * V = gs * V + V := by rw [Nat.add_mul, Nat.one_mul]
  have e2 : pw n * 1 ≤ pw n * (c + d - xn) := Nat.mul_le_mul_left _ (by omega)
  have h6 : g = gs + 1 := by
    rcases Nat.lt_trichotomy g (gs + 1) with q | q | q
    · have : g = gs := by omega
      subst this; omega
    · exact q
    · have : (gs + 2) * V ≤ g * V := Nat.mul_le_mul_right _ q
      have h7 : (gs + 2) * V = gs * V + V + V := by rw [Nat.add_mul, Nat.two_mul]; omega
      omega
  subst h6
  rw [h5] at h4
  have h8 : W + pw n * (c + d - xn) = gs * V + val Y2 + pw n * k := by omega
  have h9 : c + d - xn = k := by
    rcases Nat.lt_trichotomy (c + d - xn) k with q | q | q
    · have e3 : pw n * (c + d - xn + 1) ≤ pw n * k := Nat.mul_le_mul_left _ q
      rw [Nat.mul_add, Nat.mul_one] at e3
      omega
    · exact q
    · have e3 : pw n * (k + 1) ≤ pw n * (c + d - xn) := Nat.mul_le_mul_left _ q
      rw [Nat.mul_add, Nat.mul_one] at e3
      omega
  rw [h9] at h8
  exact ⟨rfl, by omega, by omega, by omega⟩
theorem set_pos (P Y : List Nat) (x y : Nat) (R : List Nat) (j i : Nat) (hP : P.length = j) (hY : Y.length = i) : (P ++ (Y ++ (x :: R))).set (j + i) y = P ++ ((Y ++ [y]) ++ R) := by
  subst hP hY
  rw [List.set_append_right _ _ (by omega), List.set_append_right _ _ (by omega)]
  simp
theorem getD_pos (P Y : List Nat) (x : Nat) (R : List Nat) (j i : Nat) (hP : P.length = j) (hY : Y.length = i) : (P ++ (Y ++ (x :: R))).getD (j + i) 0 = x := by
  subst hP hY
  rw [List.getD_eq_getElem?_getD, List.getElem?_append_right (by omega), List.getElem?_append_right (by omega)]
  simp
end Go.Proofs.YtcnfhndejkngkaaGreatDoor.MathD
end
