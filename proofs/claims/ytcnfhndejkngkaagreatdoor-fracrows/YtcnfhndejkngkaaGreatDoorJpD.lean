import Derived.Test.YtcnfhndejkngkaaGreatDoorJpC
section
set_option linter.unusedSimpArgs false
set_option linter.unusedVariables false
set_option maxRecDepth 100000
namespace Go.Proofs.YtcnfhndejkngkaaGreatDoor
open Go.RowKit
theorem borrow_step (D : List Nat) (k c d c2 S T x y : Nat) (h : D.length = k) (hv : val D + T = S + pw k * c) (ht : d + y + c = x + 4294967296 * c2) :
    val (D ++ [d]) + (T + pw k * y) = (S + pw k * x) + pw (k + 1) * c2 := by
  have e1 : val (D ++ [d]) = val D + pw k * d := by rw [val_append, h]; simp [val]
  have e2 : pw (k + 1) * c2 = pw k * (4294967296 * c2) := by
    show 4294967296 * pw k * c2 = _
    rw [Nat.mul_comm 4294967296 (pw k), Nat.mul_assoc]
  have e3 : pw k * (d + y + c) = pw k * (x + 4294967296 * c2) := by rw [ht]
  rw [Nat.mul_add, Nat.mul_add, Nat.mul_add] at e3
  rw [e1, e2]; omega
theorem sub_digit (x y c : Nat) (hx : x < 4294967296) (hy : y < 4294967296) (hc : c ≤ 1) : ∃ d c2 : Nat, c2 ≤ 1 ∧ d < 4294967296 ∧ d + y + c = x + 4294967296 * c2 ∧
    IntKind.u64.wrap (IntKind.u64.wrap ((x : Int) - (c : Int)) - (y : Int)) / 9223372036854775808 = (c2 : Int) ∧ IntKind.u64.wrap (IntKind.u64.wrap ((x : Int) - (c : Int)) - (y : Int)) % 4294967296 = (d : Int) := by
  simp only [IntKind.wrap_u64]
  by_cases h : x < c + y
  · exact ⟨x + 4294967296 - c - y, 1, by omega, by omega, by omega, by omega, by omega⟩
  · exact ⟨x - c - y, 0, by omega, by omega, by omega, by omega, by omega⟩
theorem sub_digit0 (x c : Nat) (hx : x < 4294967296) (hc : c ≤ 1) : ∃ d c2 : Nat, c2 ≤ 1 ∧ d < 4294967296 ∧ d + 0 + c = x + 4294967296 * c2 ∧
    IntKind.u64.wrap ((x : Int) - (c : Int)) / 9223372036854775808 = (c2 : Int) ∧ IntKind.u64.wrap ((x : Int) - (c : Int)) % 4294967296 = (d : Int) := by
  simp only [IntKind.wrap_u64]
  by_cases h : x < c
  · exact ⟨x + 4294967296 - c, 1, by omega, by omega, by omega, by omega, by omega⟩
  · exact ⟨x - c, 0, by omega, by omega, by omega, by omega, by omega⟩
set_option maxHeartbeats 1000000 in
theorem sub_core (lA lB : List Nat) (aA aB : Option Addr) (gA gB cA cB : Nat) (w : World) (hl1 : lA.length ≤ 100000000) (hle : lB.length ≤ lA.length) (hval : Hid (val lB ≤ val lA))
    (SA : Hid (∀ x ∈ lA, x < 4294967296)) (SB : Hid (∀ x ∈ lB, x < 4294967296)) (PA : Hid (0 < lA.length → aA = some ⟨gA, 0, none⟩)) (PB : Hid (0 < lB.length → aB = some ⟨gB, 0, none⟩))
    (CA : Hid (∀ i, i < lA.length → w.cell? ⟨gA, i, none⟩ = some (.int .u32 (lA.getD i 0 : Int)))) (CB : Hid (∀ i, i < lB.length → w.cell? ⟨gB, i, none⟩ = some (.int .u32 (lB.getD i 0 : Int))))
    (GA : Hid (0 < lA.length → gA < w.heap.size)) (GB : Hid (0 < lB.length → gB < w.heap.size)) :
    Calls Tryz.prog 86 #[.slice aA lA.length cA, .slice aB lB.length cB] w fun e w' => ∃ s, e = .returned s ∧ NS w' s (val lA - val lB) ∧ Below w.heap.size w w' := by
  go_enter Tryz.func86, Tryz.ntmps86
  obtain ⟨i0, hi, hz0, hz1, hz2⟩ := info_parts Tryz.info32
  go_wp2_with (at_make; refine wpList_make_full _ rfl _ _ 53 rfl w.heap.size 106 i0 (.int .u32 0) 1 Tryz.underlying53 hi hz0 hz1 .i64 .i64 _ _ lA.length rfl rfl (by omega) (by omega) (by rw [hz2]; omega) (by unfold maxLen; omega) (Nat.le_refl _) ?_)
  intro w1 hown hgrow
  have hrow := Row.of_make hown
  have hbel : Below w.heap.size w w1 := (Below.refl _ _).grown hgrow (Nat.le_refl _) (by simp)
  have HR : Hid (Row w1 w.heap.size (List.replicate lA.length 0)) := hrow
  have HB : Hid (Below w.heap.size w w1) := hbel
  clear hown hgrow hrow hbel hi hz0 hz1 hz2
  go_wp2
  go_loopw [6, 7] (fun c i wr => ∃ (k c' : Nat) (D : List Nat), k ≤ lA.length ∧ i = .int .i64 k ∧ c = .int .u64 c' ∧ c' ≤ 1 ∧ D.length = k ∧ (∀ x ∈ D, x < 4294967296) ∧ val D + val (lB.take k) = val (lA.take k) + pw k * c' ∧ Row wr w.heap.size (D ++ List.replicate (lA.length - k) 0) ∧ Below w.heap.size w wr) (fun _ i _ => lA.length - (intOf i).toNat)
  case atStart => exact ⟨0, 0, [], Nat.zero_le _, rfl, rfl, by omega, rfl, by simp, by simp [val, pw], by simpa using HR.out, HB.out⟩
  case round =>
    obtain ⟨k, c', D, hk, rfl, rfl, hc', hD, hDs, hv, hrow, hbel⟩ := hrel
    have HV : Hid (val D + val (lB.take k) = val (lA.take k) + pw k * c') := hv
    have HD : Hid (D.length = k) := hD
    have HDs : Hid (∀ x ∈ D, x < 4294967296) := hDs
    have HRr : Hid (Row wr w.heap.size (D ++ List.replicate (lA.length - k) 0)) := hrow
    have HBr : Hid (Below w.heap.size w wr) := hbel
    have hsz : (D ++ List.replicate (lA.length - k) 0).length = lA.length := by simp; omega
    clear hv hD hDs hbel HR HB
    by_cases hlt : k < lA.length
    · have cr : wr.cell? ⟨w.heap.size, k, none⟩ = some (.int .u32 ((D ++ List.replicate (lA.length - k) 0).getD k 0 : Int)) := hrow.cell k (by omega)
      have fr : wr.frozen? ⟨w.heap.size, k, none⟩ = false := hrow.frozen k
      clear hrow hsz
      generalize hqq : ((D ++ List.replicate (lA.length - k) 0).getD k 0 : Int) = qq at cr
      clear hqq
      have ca : wr.cell? ⟨gA, k, none⟩ = some (.int .u32 (lA.getD k 0 : Int)) := (HBr.out.cell (p := ⟨gA, k, none⟩) (GA.out (by omega))).trans (CA.out k hlt)
      have sx := List.getD_lt_of SA.out k
      obtain ⟨x, hx⟩ : ∃ x, x = lA.getD k 0 := ⟨_, rfl⟩
      rw [← hx] at ca sx
      have HX : Hid (x = lA.getD k 0) := hx
      obtain rfl := PA.out (by omega)
      clear hx
      by_cases hlb : k < lB.length
      · have cb : wr.cell? ⟨gB, k, none⟩ = some (.int .u32 (lB.getD k 0 : Int)) := (HBr.out.cell (p := ⟨gB, k, none⟩) (GB.out (by omega))).trans (CB.out k hlb)
        have sy := List.getD_lt_of SB.out k
        obtain ⟨y, hy⟩ : ∃ y, y = lB.getD k 0 := ⟨_, rfl⟩
        rw [← hy] at cb sy
        have HY : Hid (y = lB.getD k 0) := hy
        obtain rfl := PB.out (by omega)
        clear hy
        go_wp2
        go_roundw
        case rel =>
          obtain ⟨d, c2, h1, h2, h3, h4, h5⟩ := sub_digit x y c' sx sy hc'
          rw [h4]
          refine ⟨k + 1, c2, D ++ [d], by omega, by go_num, rfl, h1, by simp [HD.out], ?_, ?_, ?_, ?_⟩
          · intro z hz; rw [List.mem_append] at hz; rcases hz with hz | hz
            · exact HDs.out z hz
            · simp at hz; omega
          · rw [val_take_succ lA k, val_take_succ lB k, ← HX.out, ← HY.out]
            exact borrow_step D k c' d c2 _ _ x y HD.out HV.out h3
          · have e : lA.length - k = (lA.length - (k + 1)) + 1 := by omega
            have := HRr.out
            rw [e] at this
            rw [← set_app D _ _ k HD.out]
            exact this.set k _ _ (by first | exact h5 | (rw [IntKind.wrap_u32]; exact h5))
          · exact HBr.out.setCell (Nat.le_refl _) _
        case measure => simp [intOf]; omega
      · go_wp2
        go_roundw
        case rel =>
          obtain ⟨d, c2, h1, h2, h3, h4, h5⟩ := sub_digit0 x c' sx hc'
          rw [h4]
          refine ⟨k + 1, c2, D ++ [d], by omega, by go_num, rfl, h1, by simp [HD.out], ?_, ?_, ?_, ?_⟩
          · intro z hz; rw [List.mem_append] at hz; rcases hz with hz | hz
            · exact HDs.out z hz
            · simp at hz; omega
          · have e0 : lB.getD k 0 = 0 := by rw [List.getD_eq_getElem?_getD, List.getElem?_eq_none (by omega)]; rfl
            rw [val_take_succ lA k, val_take_succ lB k, ← HX.out, e0]
            exact borrow_step D k c' d c2 _ _ x 0 HD.out HV.out h3
          · have e : lA.length - k = (lA.length - (k + 1)) + 1 := by omega
            have := HRr.out
            rw [e] at this
            rw [← set_app D _ _ k HD.out]
            exact this.set k _ _ (by first | exact h5 | (rw [IntKind.wrap_u32]; exact h5))
          · exact HBr.out.setCell (Nat.le_refl _) _
        case measure => simp [intOf]; omega
    · obtain rfl : k = lA.length := by omega
      have hrow2 : Row wr w.heap.size D := by simpa using hrow
      have hsl := hrow2.sl HDs.out
      rw [HD.out] at hsl
      have HSL : Hid (Sl wr (.slice (some ⟨w.heap.size, 0, none⟩) lA.length lA.length) D) := hsl
      have HVV : Hid (val D = val lA - val lB) := by
        show val D = _
        have h1 := HV.out
        rw [List.take_of_length_le (Nat.le_refl _), List.take_of_length_le (by omega)] at h1
        have h2 := val_lt D HDs.out
        rw [HD.out] at h2
        have h3 := hval.out
        have h4 : c' = 0 := by
          rcases Nat.eq_zero_or_pos c' with e | e
          · exact e
          · obtain rfl : c' = 1 := by omega
            omega
        subst h4
        omega
      have HLN : Hid (D.length ≤ 1000000000) := by show _ ≤ _; have := HD.out; omega
      clear hsl hrow2 hrow hsz
      go_wp2_with fail
      refine (trim_any D _ _ HLN.out HSL.out).mono ?_
      rw [HVV.out]
      rintro e w2 ⟨s', rfl, hns, rfl⟩
      go_wp2
      go_ret
      exact ⟨s', rfl, hns, HBr.out⟩
theorem sub_any (s t : Value) (a b m : Nat) (w : World) (ha : NS w s a) (hb : NS w t b) (hba : b ≤ a) (hm : a < pw m) (hm' : m ≤ 100000000) :
    Calls Tryz.prog 86 #[s, t] w fun e w' => ∃ r, e = .returned r ∧ NS w' r (a - b) ∧ Below w.heap.size w w' := by
  obtain ⟨la, aa, ga, ca, rfl, va, na, sa, pa, cella, _, lta⟩ := ha.open
  obtain ⟨lb, ab, gb, cb, rfl, vb, nb, sb, pb, cellb, _, ltb⟩ := hb.open
  subst va vb
  have l1 : la.length ≤ 100000000 := Nat.le_trans (na.len hm) hm'
  exact sub_core la lb aa ab ga gb ca cb w l1 (nb.len_le sa hba) hba sa sb pa pb cella cellb lta ltb
end Go.Proofs.YtcnfhndejkngkaaGreatDoor
end

section
set_option linter.unusedSimpArgs false
set_option linter.unusedVariables false
set_option maxRecDepth 100000
namespace Go.Proofs.YtcnfhndejkngkaaGreatDoor
open Go.RowKit
theorem val_set (E : List Nat) (k d : Nat) (hk : k < E.length) : val (E.set k d) + pw k * E.getD k 0 = val E + pw k * d := by
  induction E generalizing k with
  | nil => simp at hk
  | cons x r ih =>
    cases k with
    | zero => simp [val, pw]; omega
    | succ k =>
      have := ih k (by simpa using hk)
      simp only [List.set_cons_succ, val, List.getD_cons_succ, pw]
      rw [Nat.mul_assoc, Nat.mul_assoc]
      omega
theorem mul_step (E : List Nat) (i j c t D0 x y T : Nat) (hk : i + j < E.length) (hv : val E + pw (i + j) * c = D0 + x * (pw i * T)) (ht : t = x * y + E.getD (i + j) 0 + c) :
    val (E.set (i + j) (t % 4294967296)) + pw (i + (j + 1)) * (t / 4294967296) = D0 + x * (pw i * (T + pw j * y)) := by
  have h1 := val_set E (i + j) (t % 4294967296) hk
  have e2 : pw (i + (j + 1)) * (t / 4294967296) = pw (i + j) * (4294967296 * (t / 4294967296)) := by
    show 4294967296 * pw (i + j) * (t / 4294967296) = _
    rw [Nat.mul_comm 4294967296 (pw (i + j)), Nat.mul_assoc]
  have e3 : pw (i + j) * (t % 4294967296) + pw (i + j) * (4294967296 * (t / 4294967296)) = pw (i + j) * t := by rw [← Nat.mul_add, Nat.mod_add_div]
  have e4 : pw (i + j) * t = pw (i + j) * (x * y) + pw (i + j) * E.getD (i + j) 0 + pw (i + j) * c := by rw [ht, Nat.mul_add, Nat.mul_add]
  have e5 : x * (pw i * (T + pw j * y)) = x * (pw i * T) + pw (i + j) * (x * y) := by
    rw [pw_add, Nat.mul_add, Nat.mul_add]; congr 1
    simp only [Nat.mul_assoc, Nat.mul_comm, Nat.mul_left_comm]
  rw [e2, e5]
  omega
theorem prod_le (x y : Nat) (hx : x < 4294967296) (hy : y < 4294967296) : x * y ≤ 18446744065119617025 := by
  have := Nat.mul_le_mul (show x ≤ 4294967295 by omega) (show y ≤ 4294967295 by omega); omega
theorem prod_leI (x y : Nat) (hx : x < 4294967296) (hy : y < 4294967296) : 0 ≤ (x : Int) * (y : Int) ∧ (x : Int) * (y : Int) ≤ 18446744065119617025 := by
  have h := prod_le x y hx hy
  rw [← Int.natCast_mul]; omega
theorem getD_app (E Z : List Nat) (k : Nat) (h : k < E.length) : (E ++ Z).getD k 0 = E.getD k 0 := by
  rw [List.getD_eq_getElem?_getD, List.getD_eq_getElem?_getD, List.getElem?_append_left h]
theorem mem_snoc {E : List Nat} {d : Nat} (h : ∀ x ∈ E, x < 4294967296) (hd : d < 4294967296) : ∀ x ∈ E ++ [d], x < 4294967296 := by
  intro z hz
  rw [List.mem_append] at hz
  rcases hz with hz | hz
  · exact h z hz
  · simp at hz; omega
theorem mul_row (E D : List Nat) (k n c x P L : Nat) (hE : E.length = k + n) (h : val E + pw (k + n) * c = val D + x * (pw k * L)) (hD : val D = P * L) : val (E ++ [c]) = (P + pw k * x) * L := by
  rw [val_append, hE]
  have : val [c] = c := by simp [val]
  rw [this, h, hD, Nat.add_mul]
  congr 1
  simp only [Nat.mul_assoc, Nat.mul_comm, Nat.mul_left_comm]
theorem mem_set {E : List Nat} {k d : Nat} (h : ∀ x ∈ E, x < 4294967296) (hd : d < 4294967296) : ∀ x ∈ E.set k d, x < 4294967296 := by
  intro x hx
  rcases List.mem_or_eq_of_mem_set hx with h1 | h1
  · exact h x h1
  · omega
set_option maxHeartbeats 2000000 in
theorem mul_core (lA lB : List Nat) (aA aB : Option Addr) (gA gB cA cB : Nat) (w : World) (hl1 : lA.length ≤ 100000000) (hl2 : lB.length ≤ 100000000) (hpa : 0 < lA.length) (hpb : 0 < lB.length)
    (SA : Hid (∀ x ∈ lA, x < 4294967296)) (SB : Hid (∀ x ∈ lB, x < 4294967296)) (PA : Hid (0 < lA.length → aA = some ⟨gA, 0, none⟩)) (PB : Hid (0 < lB.length → aB = some ⟨gB, 0, none⟩))
    (CA : Hid (∀ i, i < lA.length → w.cell? ⟨gA, i, none⟩ = some (.int .u32 (lA.getD i 0 : Int)))) (CB : Hid (∀ i, i < lB.length → w.cell? ⟨gB, i, none⟩ = some (.int .u32 (lB.getD i 0 : Int))))
    (GA : Hid (0 < lA.length → gA < w.heap.size)) (GB : Hid (0 < lB.length → gB < w.heap.size)) :
    Calls Tryz.prog 68 #[.slice aA lA.length cA, .slice aB lB.length cB] w fun e w' => ∃ s, e = .returned s ∧ NS w' s (val lA * val lB) ∧ Below w.heap.size w w' := by
  obtain rfl := PA.out hpa
  obtain rfl := PB.out hpb
  have gA' := GA.out hpa
  have gB' := GB.out hpb
  have t1 : ((lA.length : Int) == 0) = false := beq_eq_false_iff_ne.2 (by omega)
  have t2 : ((lB.length : Int) == 0) = false := beq_eq_false_iff_ne.2 (by omega)
  clear PA PB GA GB
  go_enter Tryz.func68, Tryz.ntmps68
  obtain ⟨i0, hi, hz0, hz1, hz2⟩ := info_parts Tryz.info32
  go_wp2_with (at_make; refine wpList_make_full _ rfl _ _ 53 rfl w.heap.size 106 i0 (.int .u32 0) 1 Tryz.underlying53 hi hz0 hz1 .i64 .i64 _ _ (lA.length + lB.length) rfl rfl (by omega) (by omega) (by rw [hz2]; omega) (by unfold maxLen; omega) (Nat.le_refl _) ?_)
  intro w1 hown hgrow
  have hrow := Row.of_make hown
  have hbel : Below w.heap.size w w1 := (Below.refl _ _).grown hgrow (Nat.le_refl _) (by simp)
  have HR : Hid (Row w1 w.heap.size (List.replicate (lA.length + lB.length) 0)) := hrow
  have HB : Hid (Below w.heap.size w w1) := hbel
  clear hown hgrow hrow hbel hi hz0 hz1 hz2
  go_wp2
  go_loopw [6] (fun i wr => ∃ (k : Nat) (D : List Nat), k ≤ lA.length ∧ i = .int .i64 k ∧ D.length = k + lB.length ∧ (∀ x ∈ D, x < 4294967296) ∧ val D = val (lA.take k) * val lB ∧ Row wr w.heap.size (D ++ List.replicate (lA.length - k) 0) ∧ Below w.heap.size w wr) (fun i _ => lA.length - (intOf i).toNat)
  case atStart =>
    refine ⟨0, List.replicate lB.length 0, Nat.zero_le _, rfl, by simp, ?_, ?_, ?_, HB.out⟩
    · intro x hx; rw [List.eq_of_mem_replicate hx]; decide
    · have := val_zeros [] lB.length; simp [val] at this; simp [val, this]
    · have := HR.out; rw [Nat.sub_zero, List.replicate_append_replicate, Nat.add_comm]; exact this
  case round =>
    obtain ⟨k, D, hk, rfl, hD, hDs, hv, hrow, hbel⟩ := hrel
    have HV : Hid (val D = val (lA.take k) * val lB) := hv
    have HD : Hid (D.length = k + lB.length) := hD
    have HDs : Hid (∀ x ∈ D, x < 4294967296) := hDs
    have HRr : Hid (Row wr w.heap.size (D ++ List.replicate (lA.length - k) 0)) := hrow
    have HBr : Hid (Below w.heap.size w wr) := hbel
    clear hv hD hDs hrow hbel HR HB
    by_cases hlt : k < lA.length
    · have sx := List.getD_lt_of SA.out k
      obtain ⟨x, hx⟩ : ∃ x, x = lA.getD k 0 := ⟨_, rfl⟩
      rw [← hx] at sx
      have HX : Hid (x = lA.getD k 0) := hx
      clear hx
      obtain ⟨wo, rfl⟩ : ∃ wo : World, wo = wr := ⟨_, rfl⟩
      go_wp2
      go_loopw [7, 8] (fun c i wr => ∃ (j c' : Nat) (E : List Nat), j ≤ lB.length ∧ i = .int .i64 j ∧ c = .int .u64 c' ∧ c' < 4294967296 ∧ E.length = k + lB.length ∧ (∀ x ∈ E, x < 4294967296) ∧ val E + pw (k + j) * c' = val D + x * (pw k * val (lB.take j)) ∧ Row wr w.heap.size (E ++ List.replicate (lA.length - k) 0) ∧ Below w.heap.size w wr) (fun _ i _ => lB.length - (intOf i).toNat)
      case atStart => exact ⟨0, 0, D, Nat.zero_le _, rfl, rfl, by omega, HD.out, HDs.out, by simp [val], HRr.out, HBr.out⟩
      case round =>
        obtain ⟨j, c', E, hj, rfl, rfl, hc', hE, hEs, hve, hrowe, hbele⟩ := hrel
        have HVE : Hid (val E + pw (k + j) * c' = val D + x * (pw k * val (lB.take j))) := hve
        have HE : Hid (E.length = k + lB.length) := hE
        have HEs : Hid (∀ x ∈ E, x < 4294967296) := hEs
        have HRe : Hid (Row wr w.heap.size (E ++ List.replicate (lA.length - k) 0)) := hrowe
        have HBe : Hid (Below w.heap.size w wr) := hbele
        have hsz : (E ++ List.replicate (lA.length - k) 0).length = lA.length + lB.length := by simp; omega
        clear hve hEs hbele
        by_cases hltb : j < lB.length
        · have cr : wr.cell? ⟨w.heap.size, k + j, none⟩ = some (.int .u32 ((E ++ List.replicate (lA.length - k) 0).getD (k + j) 0 : Int)) := hrowe.cell (k + j) (by omega)
          rw [getD_app _ _ _ (by omega)] at cr
          have fr : wr.frozen? ⟨w.heap.size, k + j, none⟩ = false := hrowe.frozen (k + j)
          have ca : wr.cell? ⟨gA, k, none⟩ = some (.int .u32 (lA.getD k 0 : Int)) := (HBe.out.cell (p := ⟨gA, k, none⟩) gA').trans (CA.out k hlt)
          have cb : wr.cell? ⟨gB, j, none⟩ = some (.int .u32 (lB.getD j 0 : Int)) := (HBe.out.cell (p := ⟨gB, j, none⟩) gB').trans (CB.out j hltb)
          rw [← HX.out] at ca
          have sy := List.getD_lt_of SB.out j
          have sz := List.getD_lt_of HEs.out (k + j)
          obtain ⟨y, hy⟩ : ∃ y, y = lB.getD j 0 := ⟨_, rfl⟩
          obtain ⟨z, hz⟩ : ∃ z, z = E.getD (k + j) 0 := ⟨_, rfl⟩
          rw [← hy] at cb sy
          rw [← hz] at cr sz
          have HY : Hid (y = lB.getD j 0) := hy
          have HZ : Hid (z = E.getD (k + j) 0) := hz
          have hxy := prod_leI x y sx sy
          clear hy hz hrowe hE hsz
          go_wp2
          go_quiet (fail)
          go_wp2
          go_roundw
          case rel =>
            have hprod : (x : Int) * (y : Int) = ((x * y : Nat) : Int) := by simp
            refine ⟨j + 1, (x * y + z + c') / 4294967296, E.set (k + j) ((x * y + z + c') % 4294967296), by omega, by go_num, ?_, ?_, by simp [HE.out], mem_set HEs.out (by omega), ?_, ?_, ?_⟩
            · rw [hprod]; congr 1; omega
            · rw [hprod] at hxy; omega
            · rw [val_take_succ lB j, ← HY.out]
              exact mul_step E k j c' _ _ x y _ (by have := HE.out; omega) HVE.out (by rw [← HZ.out])
            · rw [← List.set_append_left _ _ (by have := HE.out; omega)]
              exact (HRe.out.drewN).set (k + j) _ _ (by rw [hprod]; omega)
            · exact (below_drewN' HBe.out).setCell (Nat.le_refl _) _
          case measure => simp [intOf]; omega
        · obtain rfl : j = lB.length := by omega
          have cr : wr.cell? ⟨w.heap.size, k + lB.length, none⟩ = some (.int .u32 ((E ++ List.replicate (lA.length - k) 0).getD (k + lB.length) 0 : Int)) := hrowe.cell (k + lB.length) (by omega)
          have fr : wr.frozen? ⟨w.heap.size, k + lB.length, none⟩ = false := hrowe.frozen (k + lB.length)
          generalize hqq : ((E ++ List.replicate (lA.length - k) 0).getD (k + lB.length) 0 : Int) = qq at cr
          clear hqq hrowe hE hsz
          go_wp2
          go_roundw
          case rel =>
            refine ⟨k + 1, E ++ [c'], by omega, by go_num, by simp [HE.out]; omega, mem_snoc HEs.out hc', ?_, ?_, ?_⟩
            · have := HVE.out
              rw [List.take_of_length_le (Nat.le_refl _)] at this
              rw [val_take_succ lA k, ← HX.out]
              exact mul_row E D k lB.length c' x _ _ HE.out this HV.out
            · have e : lA.length - k = (lA.length - (k + 1)) + 1 := by omega
              have := HRe.out
              rw [e] at this
              rw [← set_app E _ _ (k + lB.length) HE.out]
              exact this.set (k + lB.length) _ _ (by omega)
            · exact HBe.out.setCell (Nat.le_refl _) _
          case measure => simp [intOf]; omega
    · obtain rfl : k = lA.length := by omega
      have hrow2 : Row wr w.heap.size D := by simpa using HRr.out
      have hsl := hrow2.sl HDs.out
      rw [HD.out] at hsl
      have HSL : Hid (Sl wr (.slice (some ⟨w.heap.size, 0, none⟩) (lA.length + lB.length) (lA.length + lB.length)) D) := hsl
      have HVV : Hid (val D = val lA * val lB) := by
        show val D = _
        have h1 := HV.out
        rwa [List.take_of_length_le (Nat.le_refl _)] at h1
      have HLN : Hid (D.length ≤ 1000000000) := by show _ ≤ _; have := HD.out; omega
      clear hsl hrow2
      go_wp2_with fail
      refine (trim_any D _ _ HLN.out HSL.out).mono ?_
      rw [HVV.out]
      rintro e w2 ⟨s', rfl, hns, rfl⟩
      go_wp2
      go_ret
      exact ⟨s', rfl, hns, HBr.out⟩
theorem mul_any (s t : Value) (a b m n : Nat) (w : World) (ha : NS w s a) (hb : NS w t b) (hm : a < pw m) (hn : b < pw n) (hm' : m ≤ 100000000) (hn' : n ≤ 100000000) :
    Calls Tryz.prog 68 #[s, t] w fun e w' => ∃ r, e = .returned r ∧ NS w' r (a * b) ∧ Below w.heap.size w w' := by
  obtain ⟨la, aa, ga, ca, rfl, va, na, sa, pa, cella, _, lta⟩ := ha.open
  obtain ⟨lb, ab, gb, cb, rfl, vb, nb, sb, pb, cellb, _, ltb⟩ := hb.open
  subst va vb
  have l1 : la.length ≤ 100000000 := Nat.le_trans (na.len hm) hm'
  have l2 : lb.length ≤ 100000000 := Nat.le_trans (nb.len hn) hn'
  have hnil : NS w (.slice none 0 0) 0 := ⟨[], ⟨by simp, Or.inl ⟨rfl, rfl⟩⟩, rfl, Or.inl rfl⟩
  by_cases h1 : la.length = 0
  · obtain rfl : la = [] := List.length_eq_zero_iff.1 h1
    clear ha hb pa pb cella cellb lta ltb
    go_enter Tryz.func68, Tryz.ntmps68
    go_wp2
    go_ret
    exact ⟨_, rfl, by simpa [val] using hnil, Below.refl _ _⟩
  · by_cases h2 : lb.length = 0
    · obtain rfl : lb = [] := List.length_eq_zero_iff.1 h2
      have t1 : ((la.length : Int) == 0) = false := beq_eq_false_iff_ne.2 (by omega)
      clear ha hb pa pb cella cellb lta ltb
      go_enter Tryz.func68, Tryz.ntmps68
      go_wp2
      go_ret
      exact ⟨_, rfl, by simpa [val] using hnil, Below.refl _ _⟩
    · exact mul_core la lb aa ab ga gb ca cb w l1 l2 (by omega) (by omega) sa sb pa pb cella cellb lta ltb
end Go.Proofs.YtcnfhndejkngkaaGreatDoor
end
