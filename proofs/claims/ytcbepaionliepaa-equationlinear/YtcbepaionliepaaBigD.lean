/- The contract of sub of words. -/
import Derived.Test.YtcbepaionliepaaBigC
set_option linter.unusedSimpArgs false
set_option linter.unusedVariables false
set_option maxRecDepth 100000
namespace Go.Proofs.Ytcbepaionliepaa
open Go.RowKit

/-- One round of a difference. -/
theorem borrow_step (D : List Nat) (k c d c2 S T x y : Nat) (h : D.length = k) (hv : val D + T = S + pw k * c) (ht : d + y + c = x + 4294967296 * c2) :
    val (D ++ [d]) + (T + pw k * y) = (S + pw k * x) + pw (k + 1) * c2 := by
  have e1 : val (D ++ [d]) = val D + pw k * d := by rw [val_append, h]; simp [val]
  have e2 : pw (k + 1) * c2 = pw k * (4294967296 * c2) := by
    show 4294967296 * pw k * c2 = _
    rw [Nat.mul_comm 4294967296 (pw k), Nat.mul_assoc]
  have e3 : pw k * (d + y + c) = pw k * (x + 4294967296 * c2) := by rw [ht]
  rw [Nat.mul_add, Nat.mul_add, Nat.mul_add] at e3
  rw [e1, e2]; omega

theorem sub_digit (x y c : Nat) (hx : x < 4294967296) (hy : y < 4294967296) (hc : c ≤ 1) : ∃ d c2 : Nat, c2 ≤ 1 ∧ d < 4294967296 ∧ d + y + c = x + 4294967296 * c2 ∧
    IntKind.u64.wrap (IntKind.u64.wrap ((x : Int) - (c : Int)) - (y : Int)) / 9223372036854775808 = (c2 : Int) ∧ IntKind.u64.wrap (IntKind.u64.wrap ((x : Int) - (c : Int)) - (y : Int)) % 4294967296 = (d : Int) := by
  simp only [IntKind.wrap_u64]
  by_cases h : x < c + y
  · exact ⟨x + 4294967296 - c - y, 1, by omega, by omega, by omega, by omega, by omega⟩
  · exact ⟨x - c - y, 0, by omega, by omega, by omega, by omega, by omega⟩
theorem sub_digit0 (x c : Nat) (hx : x < 4294967296) (hc : c ≤ 1) : ∃ d c2 : Nat, c2 ≤ 1 ∧ d < 4294967296 ∧ d + 0 + c = x + 4294967296 * c2 ∧
    IntKind.u64.wrap ((x : Int) - (c : Int)) / 9223372036854775808 = (c2 : Int) ∧ IntKind.u64.wrap ((x : Int) - (c : Int)) % 4294967296 = (d : Int) := by
  simp only [IntKind.wrap_u64]
  by_cases h : x < c
  · exact ⟨x + 4294967296 - c, 1, by omega, by omega, by omega, by omega, by omega⟩
  · exact ⟨x - c, 0, by omega, by omega, by omega, by omega, by omega⟩

set_option maxHeartbeats 1000000 in
theorem sub_core (lA lB : List Nat) (aA aB : Option Addr) (gA gB cA cB : Nat) (w : World) (hl1 : lA.length ≤ 100000000) (hle : lB.length ≤ lA.length) (hval : Hid (val lB ≤ val lA))
    (SA : Hid (∀ x ∈ lA, x < 4294967296)) (SB : Hid (∀ x ∈ lB, x < 4294967296)) (PA : Hid (0 < lA.length → aA = some ⟨gA, 0, none⟩)) (PB : Hid (0 < lB.length → aB = some ⟨gB, 0, none⟩))
    (CA : Hid (∀ i, i < lA.length → w.cell? ⟨gA, i, none⟩ = some (.int .u32 (lA.getD i 0 : Int)))) (CB : Hid (∀ i, i < lB.length → w.cell? ⟨gB, i, none⟩ = some (.int .u32 (lB.getD i 0 : Int))))
    (GA : Hid (0 < lA.length → gA < w.heap.size)) (GB : Hid (0 < lB.length → gB < w.heap.size)) :
    Calls Try.prog 53 #[.slice aA lA.length cA, .slice aB lB.length cB] w fun e w' => ∃ s, e = .returned s ∧ NS w' s (val lA - val lB) ∧ Below w.heap.size w w' := by
  go_enter Try.func53, Try.ntmps53
  obtain ⟨i0, hi, hz0, hz1, hz2⟩ := info_parts Try.info32
  go_wp2_with (at_make; refine wpList_make_full _ rfl _ _ 45 rfl w.heap.size 77 i0 (.int .u32 0) 1 Try.underlying45 hi hz0 hz1 .i64 .i64 _ _ lA.length rfl rfl (by omega) (by omega) (by rw [hz2]; omega) (by unfold maxLen; omega) (Nat.le_refl _) ?_)
  intro w1 hown hgrow
  have hrow := Row.of_make hown
  have hbel : Below w.heap.size w w1 := (Below.refl _ _).grown hgrow (Nat.le_refl _) (by simp)
  have HR : Hid (Row w1 w.heap.size (List.replicate lA.length 0)) := hrow
  have HB : Hid (Below w.heap.size w w1) := hbel
  clear hown hgrow hrow hbel hi hz0 hz1 hz2
  go_wp2
  go_loopw [6, 7] (fun c i wr => ∃ (k c' : Nat) (D : List Nat), k ≤ lA.length ∧ i = .int .i64 k ∧ c = .int .u64 c' ∧ c' ≤ 1 ∧ D.length = k ∧ (∀ x ∈ D, x < 4294967296) ∧ val D + val (lB.take k) = val (lA.take k) + pw k * c' ∧ Row wr w.heap.size (D ++ List.replicate (lA.length - k) 0) ∧ Below w.heap.size w wr) (fun _ i _ => lA.length - (intOf i).toNat)
  case atStart => exact ⟨0, 0, [], Nat.zero_le _, rfl, rfl, by omega, rfl, by simp, by simp [val, pw], by simpa using HR.out, HB.out⟩
  case round =>
    obtain ⟨k, c', D, hk, rfl, rfl, hc', hD, hDs, hv, hrow, hbel⟩ := hrel
    have HV : Hid (val D + val (lB.take k) = val (lA.take k) + pw k * c') := hv
    have HD : Hid (D.length = k) := hD
    have HDs : Hid (∀ x ∈ D, x < 4294967296) := hDs
    have HRr : Hid (Row wr w.heap.size (D ++ List.replicate (lA.length - k) 0)) := hrow
    have HBr : Hid (Below w.heap.size w wr) := hbel
    have hsz : (D ++ List.replicate (lA.length - k) 0).length = lA.length := by simp; omega
    clear hv hD hDs hbel HR HB
    by_cases hlt : k < lA.length
    · have cr : wr.cell? ⟨w.heap.size, k, none⟩ = some (.int .u32 ((D ++ List.replicate (lA.length - k) 0).getD k 0 : Int)) := hrow.cell k (by omega)
      have fr : wr.frozen? ⟨w.heap.size, k, none⟩ = false := hrow.frozen k
      clear hrow hsz
      generalize hqq : ((D ++ List.replicate (lA.length - k) 0).getD k 0 : Int) = qq at cr
      clear hqq
      have ca : wr.cell? ⟨gA, k, none⟩ = some (.int .u32 (lA.getD k 0 : Int)) := (HBr.out.cell (p := ⟨gA, k, none⟩) (GA.out (by omega))).trans (CA.out k hlt)
      have sx := List.getD_lt_of SA.out k
      obtain ⟨x, hx⟩ : ∃ x, x = lA.getD k 0 := ⟨_, rfl⟩
      rw [← hx] at ca sx
      have HX : Hid (x = lA.getD k 0) := hx
      obtain rfl := PA.out (by omega)
      clear hx
      by_cases hlb : k < lB.length
      · have cb : wr.cell? ⟨gB, k, none⟩ = some (.int .u32 (lB.getD k 0 : Int)) := (HBr.out.cell (p := ⟨gB, k, none⟩) (GB.out (by omega))).trans (CB.out k hlb)
        have sy := List.getD_lt_of SB.out k
        obtain ⟨y, hy⟩ : ∃ y, y = lB.getD k 0 := ⟨_, rfl⟩
        rw [← hy] at cb sy
        have HY : Hid (y = lB.getD k 0) := hy
        obtain rfl := PB.out (by omega)
        clear hy
        go_wp2
        go_roundw
        case rel =>
          obtain ⟨d, c2, h1, h2, h3, h4, h5⟩ := sub_digit x y c' sx sy hc'
          rw [h4]
          refine ⟨k + 1, c2, D ++ [d], by omega, by go_num, rfl, h1, by simp [HD.out], ?_, ?_, ?_, ?_⟩
          · intro z hz; rw [List.mem_append] at hz; rcases hz with hz | hz
            · exact HDs.out z hz
            · simp at hz; omega
          · rw [val_take_succ lA k, val_take_succ lB k, ← HX.out, ← HY.out]
            exact borrow_step D k c' d c2 _ _ x y HD.out HV.out h3
          · have e : lA.length - k = (lA.length - (k + 1)) + 1 := by omega
            have := HRr.out
            rw [e] at this
            rw [← set_app D _ _ k HD.out]
            exact this.set k _ _ (by first | exact h5 | (rw [IntKind.wrap_u32]; exact h5))
          · exact HBr.out.setCell (Nat.le_refl _) _
        case measure => simp [intOf]; omega
      · go_wp2
        go_roundw
        case rel =>
          obtain ⟨d, c2, h1, h2, h3, h4, h5⟩ := sub_digit0 x c' sx hc'
          rw [h4]
          refine ⟨k + 1, c2, D ++ [d], by omega, by go_num, rfl, h1, by simp [HD.out], ?_, ?_, ?_, ?_⟩
          · intro z hz; rw [List.mem_append] at hz; rcases hz with hz | hz
            · exact HDs.out z hz
            · simp at hz; omega
          · have e0 : lB.getD k 0 = 0 := by rw [List.getD_eq_getElem?_getD, List.getElem?_eq_none (by omega)]; rfl
            rw [val_take_succ lA k, val_take_succ lB k, ← HX.out, e0]
            exact borrow_step D k c' d c2 _ _ x 0 HD.out HV.out h3
          · have e : lA.length - k = (lA.length - (k + 1)) + 1 := by omega
            have := HRr.out
            rw [e] at this
            rw [← set_app D _ _ k HD.out]
            exact this.set k _ _ (by first | exact h5 | (rw [IntKind.wrap_u32]; exact h5))
          · exact HBr.out.setCell (Nat.le_refl _) _
        case measure => simp [intOf]; omega
    · obtain rfl : k = lA.length := by omega
      have hrow2 : Row wr w.heap.size D := by simpa using hrow
      have hsl := hrow2.sl HDs.out
      rw [HD.out] at hsl
      have HSL : Hid (Sl wr (.slice (some ⟨w.heap.size, 0, none⟩) lA.length lA.length) D) := hsl
      have HVV : Hid (val D = val lA - val lB) := by
        show val D = _
        have h1 := HV.out
        rw [List.take_of_length_le (Nat.le_refl _), List.take_of_length_le (by omega)] at h1
        have h2 := val_lt D HDs.out
        rw [HD.out] at h2
        have h3 := hval.out
        have h4 : c' = 0 := by
          rcases Nat.eq_zero_or_pos c' with e | e
          · exact e
          · obtain rfl : c' = 1 := by omega
            omega
        subst h4
        omega
      have HLN : Hid (D.length ≤ 1000000000) := by show _ ≤ _; have := HD.out; omega
      clear hsl hrow2 hrow hsz
      go_wp2_with fail
      refine (trim_any D _ _ HLN.out HSL.out).mono ?_
      rw [HVV.out]
      rintro e w2 ⟨s', rfl, hns, rfl⟩
      go_wp2
      go_ret
      exact ⟨s', rfl, hns, HBr.out⟩

theorem sub_any (s t : Value) (a b m : Nat) (w : World) (ha : NS w s a) (hb : NS w t b) (hba : b ≤ a) (hm : a < pw m) (hm' : m ≤ 100000000) :
    Calls Try.prog 53 #[s, t] w fun e w' => ∃ r, e = .returned r ∧ NS w' r (a - b) ∧ Below w.heap.size w w' := by
  obtain ⟨la, aa, ga, ca, rfl, va, na, sa, pa, cella, _, lta⟩ := ha.open
  obtain ⟨lb, ab, gb, cb, rfl, vb, nb, sb, pb, cellb, _, ltb⟩ := hb.open
  subst va vb
  have l1 : la.length ≤ 100000000 := Nat.le_trans (na.len hm) hm'
  exact sub_core la lb aa ab ga gb ca cb w l1 (nb.len_le sa hba) hba sa sb pa pb cella cellb lta ltb

end Go.Proofs.Ytcbepaionliepaa
