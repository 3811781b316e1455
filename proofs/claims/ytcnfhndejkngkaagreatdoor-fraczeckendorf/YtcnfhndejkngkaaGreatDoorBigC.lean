/- Contracts of add and sub of words. -/
import Derived.Test.YtcnfhndejkngkaaGreatDoorJzL
set_option linter.unusedSimpArgs false
set_option linter.unusedVariables false
set_option maxRecDepth 100000
namespace Go.Proofs.YtcnfhndejkngkaaGreatDoor
open Go.RowKit

theorem Tryz.info32 : (Tryz.prog.info? 106).map (fun i => (i.zero, i.size, i.bytes)) = some (some (.int .u32 0), 1, 4) := by kernel_rfl

theorem val_take_succ (l : List Nat) (k : Nat) : val (l.take (k + 1)) = val (l.take k) + pw k * l.getD k 0 := by
  by_cases h : k < l.length
  · rw [List.take_succ_eq_append_getElem h, val_append, List.length_take, Nat.min_eq_left (by omega), List.getD_eq_getElem?_getD, List.getElem?_eq_getElem h, Option.getD_some]
    simp [val]
  · rw [List.take_of_length_le (by omega), List.take_of_length_le (by omega), List.getD_eq_getElem?_getD, List.getElem?_eq_none (by omega)]
    simp

theorem set_app (D : List Nat) (m x k : Nat) (h : D.length = k) : (D ++ List.replicate (m + 1) 0).set k x = (D ++ [x]) ++ List.replicate m 0 := by
  subst h
  rw [List.set_append_right _ _ (Nat.le_refl _)]
  simp [List.replicate_succ]

theorem val_zeros (D : List Nat) (m : Nat) : val (D ++ List.replicate m 0) = val D := by
  have : val (List.replicate m 0) = 0 := by
    induction m with
    | zero => rfl
    | succ n ih => simp [List.replicate_succ, val, ih]
  rw [val_append, this]; simp

/-- One round of a sum: the digit and what is carried. -/
theorem carry_step (D : List Nat) (k c t S x y : Nat) (h : D.length = k) (hv : val D + pw k * c = S) (ht : t = c + x + y) :
    val (D ++ [t % 4294967296]) + pw (k + 1) * (t / 4294967296) = S + pw k * x + pw k * y := by
  have e1 : val (D ++ [t % 4294967296]) = val D + pw k * (t % 4294967296) := by rw [val_append, h]; simp [val]
  have e2 : pw (k + 1) * (t / 4294967296) = pw k * (4294967296 * (t / 4294967296)) := by
    show 4294967296 * pw k * (t / 4294967296) = _
    rw [Nat.mul_comm 4294967296 (pw k), Nat.mul_assoc]
  have e3 : pw k * (t % 4294967296) + pw k * (4294967296 * (t / 4294967296)) = pw k * t := by rw [← Nat.mul_add, Nat.mod_add_div]
  rw [e1, e2]
  have e4 : pw k * t = pw k * c + pw k * x + pw k * y := by rw [ht, Nat.mul_add, Nat.mul_add]
  omega

theorem List.getD_lt_of {l : List Nat} (h : ∀ x ∈ l, x < 4294967296) (k : Nat) : l.getD k 0 < 4294967296 := by
  by_cases hk : k < l.length
  · rw [List.getD_eq_getElem?_getD, List.getElem?_eq_getElem hk, Option.getD_some]; exact h _ (List.getElem_mem hk)
  · rw [List.getD_eq_getElem?_getD, List.getElem?_eq_none (by omega)]; decide

set_option maxHeartbeats 1000000 in
theorem add_ge (lA lB : List Nat) (aA aB : Option Addr) (gA gB cA cB : Nat) (w : World) (hl1 : lA.length ≤ 100000000) (hle : lB.length ≤ lA.length)
    (SA : Hid (∀ x ∈ lA, x < 4294967296)) (SB : Hid (∀ x ∈ lB, x < 4294967296)) (PA : Hid (0 < lA.length → aA = some ⟨gA, 0, none⟩)) (PB : Hid (0 < lB.length → aB = some ⟨gB, 0, none⟩))
    (CA : Hid (∀ i, i < lA.length → w.cell? ⟨gA, i, none⟩ = some (.int .u32 (lA.getD i 0 : Int)))) (CB : Hid (∀ i, i < lB.length → w.cell? ⟨gB, i, none⟩ = some (.int .u32 (lB.getD i 0 : Int))))
    (GA : Hid (0 < lA.length → gA < w.heap.size)) (GB : Hid (0 < lB.length → gB < w.heap.size)) :
    Calls Tryz.prog 85 #[.slice aA lA.length cA, .slice aB lB.length cB] w fun e w' => ∃ s, e = .returned s ∧ NS w' s (val lA + val lB) ∧ Below w.heap.size w w' := by
  go_enter Tryz.func85, Tryz.ntmps85
  obtain ⟨i0, hi, hz0, hz1, hz2⟩ := info_parts Tryz.info32
  go_wp2_with (at_make; refine wpList_make_full _ rfl _ _ 53 rfl w.heap.size 106 i0 (.int .u32 0) 1 Tryz.underlying53 hi hz0 hz1 .i64 .i64 _ _ (lA.length + 1) rfl rfl (by omega) (by omega) (by rw [hz2]; omega) (by unfold maxLen; omega) (Nat.le_refl _) ?_)
  intro w1 hown hgrow
  have hrow := Row.of_make hown
  have hbel : Below w.heap.size w w1 := (Below.refl _ _).grown hgrow (Nat.le_refl _) (by simp)
  have HR : Hid (Row w1 w.heap.size (List.replicate (lA.length + 1) 0)) := hrow
  have HB : Hid (Below w.heap.size w w1) := hbel
  clear hown hgrow hrow hbel hi hz0 hz1 hz2
  go_wp2
  go_loopw [6, 7] (fun c i wr => ∃ (k c' : Nat) (D : List Nat), k ≤ lA.length ∧ i = .int .i64 k ∧ c = .int .u64 c' ∧ c' ≤ 1 ∧ D.length = k ∧ (∀ x ∈ D, x < 4294967296) ∧ val D + pw k * c' = val (lA.take k) + val (lB.take k) ∧ Row wr w.heap.size (D ++ List.replicate (lA.length + 1 - k) 0) ∧ Below w.heap.size w wr) (fun _ i _ => lA.length - (intOf i).toNat)
  case atStart => exact ⟨0, 0, [], Nat.zero_le _, rfl, rfl, by omega, rfl, by simp, by simp [val, pw], by simpa using HR.out, HB.out⟩
  case round =>
    obtain ⟨k, c', D, hk, rfl, rfl, hc', hD, hDs, hv, hrow, hbel⟩ := hrel
    have HV : Hid (val D + pw k * c' = val (lA.take k) + val (lB.take k)) := hv
    have HD : Hid (D.length = k) := hD
    have HDs : Hid (∀ x ∈ D, x < 4294967296) := hDs
    have HRr : Hid (Row wr w.heap.size (D ++ List.replicate (lA.length + 1 - k) 0)) := hrow
    have HBr : Hid (Below w.heap.size w wr) := hbel
    have hsz : (D ++ List.replicate (lA.length + 1 - k) 0).length = lA.length + 1 := by simp; omega
    have cr : wr.cell? ⟨w.heap.size, k, none⟩ = some (.int .u32 ((D ++ List.replicate (lA.length + 1 - k) 0).getD k 0 : Int)) := hrow.cell k (by omega)
    have fr : wr.frozen? ⟨w.heap.size, k, none⟩ = false := hrow.frozen k
    clear hv hD hDs hrow hbel hsz HR HB
    generalize hqq : ((D ++ List.replicate (lA.length + 1 - k) 0).getD k 0 : Int) = qq at cr
    clear hqq
    by_cases hlt : k < lA.length
    · have ca : wr.cell? ⟨gA, k, none⟩ = some (.int .u32 (lA.getD k 0 : Int)) := (HBr.out.cell (p := ⟨gA, k, none⟩) (GA.out (by omega))).trans (CA.out k hlt)
      have sx := List.getD_lt_of SA.out k
      obtain ⟨x, hx⟩ : ∃ x, x = lA.getD k 0 := ⟨_, rfl⟩
      rw [← hx] at ca sx
      have HX : Hid (x = lA.getD k 0) := hx
      obtain rfl := PA.out (by omega)
      clear hx
      by_cases hlb : k < lB.length
      · have cb : wr.cell? ⟨gB, k, none⟩ = some (.int .u32 (lB.getD k 0 : Int)) := (HBr.out.cell (p := ⟨gB, k, none⟩) (GB.out (by omega))).trans (CB.out k hlb)
        have sy := List.getD_lt_of SB.out k
        obtain ⟨y, hy⟩ : ∃ y, y = lB.getD k 0 := ⟨_, rfl⟩
        rw [← hy] at cb sy
        have HY : Hid (y = lB.getD k 0) := hy
        obtain rfl := PB.out (by omega)
        clear hy
        go_wp2
        go_roundw
        case rel =>
          refine ⟨k + 1, (c' + x + y) / 4294967296, D ++ [(c' + x + y) % 4294967296], by omega, by go_num, by go_num, by omega, by simp [HD.out], ?_, ?_, ?_, ?_⟩
          · intro z hz; rw [List.mem_append] at hz; rcases hz with hz | hz
            · exact HDs.out z hz
            · simp at hz; omega
          · rw [carry_step D k c' _ _ x y HD.out HV.out rfl, val_take_succ lA k, val_take_succ lB k, HX.out, HY.out]; omega
          · have e : lA.length + 1 - k = (lA.length + 1 - (k + 1)) + 1 := by omega
            have := HRr.out
            rw [e] at this
            rw [← set_app D _ _ k HD.out]
            exact this.set k _ _ (by omega)
          · exact HBr.out.setCell (Nat.le_refl _) _
        case measure => simp [intOf]; omega
      · go_wp2
        go_roundw
        case rel =>
          refine ⟨k + 1, (c' + x + 0) / 4294967296, D ++ [(c' + x + 0) % 4294967296], by omega, by go_num, by go_num, by omega, by simp [HD.out], ?_, ?_, ?_, ?_⟩
          · intro z hz; rw [List.mem_append] at hz; rcases hz with hz | hz
            · exact HDs.out z hz
            · simp at hz; omega
          · have e0 : lB.getD k 0 = 0 := by rw [List.getD_eq_getElem?_getD, List.getElem?_eq_none (by omega)]; rfl
            rw [carry_step D k c' _ _ x 0 HD.out HV.out rfl, val_take_succ lA k, val_take_succ lB k, HX.out, e0]; omega
          · have e : lA.length + 1 - k = (lA.length + 1 - (k + 1)) + 1 := by omega
            have := HRr.out
            rw [e] at this
            rw [← set_app D _ _ k HD.out]
            exact this.set k _ _ (by omega)
          · exact HBr.out.setCell (Nat.le_refl _) _
        case measure => simp [intOf]; omega
    · obtain rfl : k = lA.length := by omega
      have hrow2 : Row (wr.setCell ⟨w.heap.size, lA.length, none⟩ (.int .u32 c')) w.heap.size (D ++ [c']) := by
        have := HRr.out.set lA.length (c' : Int) c' rfl
        rw [show lA.length + 1 - lA.length = 0 + 1 by omega, set_app D 0 c' lA.length HD.out] at this
        simpa using this
      have hsl := hrow2.sl (fun z hz => by
        rw [List.mem_append] at hz; rcases hz with hz | hz
        · exact HDs.out z hz
        · simp at hz; omega)
      have hlen : (D ++ [c']).length = lA.length + 1 := by simp [HD.out]
      rw [hlen] at hsl
      have HSL : Hid (Sl (wr.setCell ⟨w.heap.size, lA.length, none⟩ (.int .u32 c')) (.slice (some ⟨w.heap.size, 0, none⟩) (lA.length + 1) (lA.length + 1)) (D ++ [c'])) := hsl
      have HVV : Hid (val (D ++ [c']) = val lA + val lB) := by
        show val (D ++ [c']) = _
        have := HV.out
        rw [List.take_of_length_le (Nat.le_refl _), List.take_of_length_le (by omega)] at this
        rw [← this, val_append, HD.out]; simp [val]
      have HLN : Hid ((D ++ [c']).length ≤ 1000000000) := by show _ ≤ _; omega
      clear hsl hlen hrow2
      go_wp2_with fail
      refine (trim_any (D ++ [c']) _ _ HLN.out HSL.out).mono ?_
      rw [HVV.out]
      rintro e w2 ⟨s', rfl, hns, rfl⟩
      go_wp2
      go_ret
      exact ⟨s', rfl, hns, HBr.out.setCell (Nat.le_refl _) _⟩

set_option maxHeartbeats 1000000 in
theorem add_lt (lA lB : List Nat) (aA aB : Option Addr) (gA gB cA cB : Nat) (w : World) (hl1 : lA.length ≤ 100000000) (hlt' : lB.length < lA.length)
    (SA : Hid (∀ x ∈ lA, x < 4294967296)) (SB : Hid (∀ x ∈ lB, x < 4294967296)) (PA : Hid (0 < lA.length → aA = some ⟨gA, 0, none⟩)) (PB : Hid (0 < lB.length → aB = some ⟨gB, 0, none⟩))
    (CA : Hid (∀ i, i < lA.length → w.cell? ⟨gA, i, none⟩ = some (.int .u32 (lA.getD i 0 : Int)))) (CB : Hid (∀ i, i < lB.length → w.cell? ⟨gB, i, none⟩ = some (.int .u32 (lB.getD i 0 : Int))))
    (GA : Hid (0 < lA.length → gA < w.heap.size)) (GB : Hid (0 < lB.length → gB < w.heap.size)) :
    Calls Tryz.prog 85 #[.slice aB lB.length cB, .slice aA lA.length cA] w fun e w' => ∃ s, e = .returned s ∧ NS w' s (val lA + val lB) ∧ Below w.heap.size w w' := by
  have hle : lB.length ≤ lA.length := by omega
  go_enter Tryz.func85, Tryz.ntmps85
  obtain ⟨i0, hi, hz0, hz1, hz2⟩ := info_parts Tryz.info32
  go_wp2_with (at_make; refine wpList_make_full _ rfl _ _ 53 rfl w.heap.size 106 i0 (.int .u32 0) 1 Tryz.underlying53 hi hz0 hz1 .i64 .i64 _ _ (lA.length + 1) rfl rfl (by omega) (by omega) (by rw [hz2]; omega) (by unfold maxLen; omega) (Nat.le_refl _) ?_)
  intro w1 hown hgrow
  have hrow := Row.of_make hown
  have hbel : Below w.heap.size w w1 := (Below.refl _ _).grown hgrow (Nat.le_refl _) (by simp)
  have HR : Hid (Row w1 w.heap.size (List.replicate (lA.length + 1) 0)) := hrow
  have HB : Hid (Below w.heap.size w w1) := hbel
  clear hown hgrow hrow hbel hi hz0 hz1 hz2
  go_wp2
  go_loopw [6, 7] (fun c i wr => ∃ (k c' : Nat) (D : List Nat), k ≤ lA.length ∧ i = .int .i64 k ∧ c = .int .u64 c' ∧ c' ≤ 1 ∧ D.length = k ∧ (∀ x ∈ D, x < 4294967296) ∧ val D + pw k * c' = val (lA.take k) + val (lB.take k) ∧ Row wr w.heap.size (D ++ List.replicate (lA.length + 1 - k) 0) ∧ Below w.heap.size w wr) (fun _ i _ => lA.length - (intOf i).toNat)
  case atStart => exact ⟨0, 0, [], Nat.zero_le _, rfl, rfl, by omega, rfl, by simp, by simp [val, pw], by simpa using HR.out, HB.out⟩
  case round =>
    obtain ⟨k, c', D, hk, rfl, rfl, hc', hD, hDs, hv, hrow, hbel⟩ := hrel
    have HV : Hid (val D + pw k * c' = val (lA.take k) + val (lB.take k)) := hv
    have HD : Hid (D.length = k) := hD
    have HDs : Hid (∀ x ∈ D, x < 4294967296) := hDs
    have HRr : Hid (Row wr w.heap.size (D ++ List.replicate (lA.length + 1 - k) 0)) := hrow
    have HBr : Hid (Below w.heap.size w wr) := hbel
    have hsz : (D ++ List.replicate (lA.length + 1 - k) 0).length = lA.length + 1 := by simp; omega
    have cr : wr.cell? ⟨w.heap.size, k, none⟩ = some (.int .u32 ((D ++ List.replicate (lA.length + 1 - k) 0).getD k 0 : Int)) := hrow.cell k (by omega)
    have fr : wr.frozen? ⟨w.heap.size, k, none⟩ = false := hrow.frozen k
    clear hv hD hDs hrow hbel hsz HR HB
    generalize hqq : ((D ++ List.replicate (lA.length + 1 - k) 0).getD k 0 : Int) = qq at cr
    clear hqq
    by_cases hlt : k < lA.length
    · have ca : wr.cell? ⟨gA, k, none⟩ = some (.int .u32 (lA.getD k 0 : Int)) := (HBr.out.cell (p := ⟨gA, k, none⟩) (GA.out (by omega))).trans (CA.out k hlt)
      have sx := List.getD_lt_of SA.out k
      obtain ⟨x, hx⟩ : ∃ x, x = lA.getD k 0 := ⟨_, rfl⟩
      rw [← hx] at ca sx
      have HX : Hid (x = lA.getD k 0) := hx
      obtain rfl := PA.out (by omega)
      clear hx
      by_cases hlb : k < lB.length
      · have cb : wr.cell? ⟨gB, k, none⟩ = some (.int .u32 (lB.getD k 0 : Int)) := (HBr.out.cell (p := ⟨gB, k, none⟩) (GB.out (by omega))).trans (CB.out k hlb)
        have sy := List.getD_lt_of SB.out k
        obtain ⟨y, hy⟩ : ∃ y, y = lB.getD k 0 := ⟨_, rfl⟩
        rw [← hy] at cb sy
        have HY : Hid (y = lB.getD k 0) := hy
        obtain rfl := PB.out (by omega)
        clear hy
        go_wp2
        go_roundw
        case rel =>
          refine ⟨k + 1, (c' + x + y) / 4294967296, D ++ [(c' + x + y) % 4294967296], by omega, by go_num, by go_num, by omega, by simp [HD.out], ?_, ?_, ?_, ?_⟩
          · intro z hz; rw [List.mem_append] at hz; rcases hz with hz | hz
            · exact HDs.out z hz
            · simp at hz; omega
          · rw [carry_step D k c' _ _ x y HD.out HV.out rfl, val_take_succ lA k, val_take_succ lB k, HX.out, HY.out]; omega
          · have e : lA.length + 1 - k = (lA.length + 1 - (k + 1)) + 1 := by omega
            have := HRr.out
            rw [e] at this
            rw [← set_app D _ _ k HD.out]
            exact this.set k _ _ (by omega)
          · exact HBr.out.setCell (Nat.le_refl _) _
        case measure => simp [intOf]; omega
      · go_wp2
        go_roundw
        case rel =>
          refine ⟨k + 1, (c' + x + 0) / 4294967296, D ++ [(c' + x + 0) % 4294967296], by omega, by go_num, by go_num, by omega, by simp [HD.out], ?_, ?_, ?_, ?_⟩
          · intro z hz; rw [List.mem_append] at hz; rcases hz with hz | hz
            · exact HDs.out z hz
            · simp at hz; omega
          · have e0 : lB.getD k 0 = 0 := by rw [List.getD_eq_getElem?_getD, List.getElem?_eq_none (by omega)]; rfl
            rw [carry_step D k c' _ _ x 0 HD.out HV.out rfl, val_take_succ lA k, val_take_succ lB k, HX.out, e0]; omega
          · have e : lA.length + 1 - k = (lA.length + 1 - (k + 1)) + 1 := by omega
            have := HRr.out
            rw [e] at this
            rw [← set_app D _ _ k HD.out]
            exact this.set k _ _ (by omega)
          · exact HBr.out.setCell (Nat.le_refl _) _
        case measure => simp [intOf]; omega
    · obtain rfl : k = lA.length := by omega
      have hrow2 : Row (wr.setCell ⟨w.heap.size, lA.length, none⟩ (.int .u32 c')) w.heap.size (D ++ [c']) := by
        have := HRr.out.set lA.length (c' : Int) c' rfl
        rw [show lA.length + 1 - lA.length = 0 + 1 by omega, set_app D 0 c' lA.length HD.out] at this
        simpa using this
      have hsl := hrow2.sl (fun z hz => by
        rw [List.mem_append] at hz; rcases hz with hz | hz
        · exact HDs.out z hz
        · simp at hz; omega)
      have hlen : (D ++ [c']).length = lA.length + 1 := by simp [HD.out]
      rw [hlen] at hsl
      have HSL : Hid (Sl (wr.setCell ⟨w.heap.size, lA.length, none⟩ (.int .u32 c')) (.slice (some ⟨w.heap.size, 0, none⟩) (lA.length + 1) (lA.length + 1)) (D ++ [c'])) := hsl
      have HVV : Hid (val (D ++ [c']) = val lA + val lB) := by
        show val (D ++ [c']) = _
        have := HV.out
        rw [List.take_of_length_le (Nat.le_refl _), List.take_of_length_le (by omega)] at this
        rw [← this, val_append, HD.out]; simp [val]
      have HLN : Hid ((D ++ [c']).length ≤ 1000000000) := by show _ ≤ _; omega
      clear hsl hlen hrow2
      go_wp2_with fail
      refine (trim_any (D ++ [c']) _ _ HLN.out HSL.out).mono ?_
      rw [HVV.out]
      rintro e w2 ⟨s', rfl, hns, rfl⟩
      go_wp2
      go_ret
      exact ⟨s', rfl, hns, HBr.out.setCell (Nat.le_refl _) _⟩

theorem add_any (s t : Value) (a b m n : Nat) (w : World) (ha : NS w s a) (hb : NS w t b) (hm : a < pw m) (hn : b < pw n) (hm' : m ≤ 100000000) (hn' : n ≤ 100000000) :
    Calls Tryz.prog 85 #[s, t] w fun e w' => ∃ r, e = .returned r ∧ NS w' r (a + b) ∧ Below w.heap.size w w' := by
  obtain ⟨la, aa, ga, ca, rfl, va, na, sa, pa, cella, _, lta⟩ := ha.open
  obtain ⟨lb, ab, gb, cb, rfl, vb, nb, sb, pb, cellb, _, ltb⟩ := hb.open
  subst va vb
  have l1 : la.length ≤ 100000000 := Nat.le_trans (na.len hm) hm'
  have l2 : lb.length ≤ 100000000 := Nat.le_trans (nb.len hn) hn'
  rcases Nat.lt_or_ge la.length lb.length with h | h
  · rw [Nat.add_comm]
    exact add_lt lb la ab aa gb ga cb ca w l2 h sb sa pb pa cellb cella ltb lta
  · exact add_ge la lb aa ab ga gb ca cb w l1 h sa sb pa pb cella cellb lta ltb

end Go.Proofs.YtcnfhndejkngkaaGreatDoor
