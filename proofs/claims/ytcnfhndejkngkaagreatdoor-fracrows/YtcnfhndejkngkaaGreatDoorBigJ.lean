import Derived.Test.YtcnfhndejkngkaaGreatDoorJpG
set_option linter.unusedSimpArgs false
set_option linter.unusedVariables false
set_option maxRecDepth 100000
namespace Go.Proofs.YtcnfhndejkngkaaGreatDoor
open Go.RowKit
structure Bits (a L : Nat) : Prop where
  lt : a < 2 ^ L
  ge : a ≠ 0 → 1 ≤ L ∧ 2 ^ (L - 1) ≤ a
theorem pw_two_pow (k : Nat) : pw k = 2 ^ (32 * k) := by
  induction k with
  | zero => rfl
  | succ n ih => show 4294967296 * pw n = _; rw [ih, Nat.mul_add, Nat.pow_add, Nat.mul_comm]
theorem half_step (x n : Nat) (h : x / 2 ^ n ≠ 0) : 2 ^ n ≤ x := by
  rcases Nat.lt_or_ge x (2 ^ n) with c | c
  · exact absurd (Nat.div_eq_of_lt c) h
  · exact c
theorem half_le (x n : Nat) (hx : x < 4294967296) (h : x / 2 ^ n ≠ 0) : n < 32 := by
  rcases Nat.lt_or_ge n 32 with c | c
  · exact c
  · have h1 := half_step x n h
    have h2 : 2 ^ 32 ≤ 2 ^ n := Nat.pow_le_pow_right (by omega) c
    omega
set_option maxHeartbeats 400000 in
theorem length_core (l : List Nat) (aa : Option Addr) (g cap : Nat) (w : World) (hl : 0 < l.length) (hl2 : l.length ≤ 100000000) (hs : ∀ x ∈ l, x < 4294967296) (ha : aa = some ⟨g, 0, none⟩)
    (hc : w.cell? ⟨g, l.length - 1, none⟩ = some (.int .u32 (l.getD (l.length - 1) 0 : Int))) :
    Calls Tryz.prog 118 #[.slice aa l.length cap] w fun e w' => ∃ t : Nat, e = .returned (.int .i64 (((l.length - 1) * 32 + t : Nat) : Int)) ∧ Bits (l.getD (l.length - 1) 0) t ∧ t ≤ 32 ∧ w' = w := by
  subst ha
  have sx := List.getD_lt_of hs (l.length - 1)
  obtain ⟨x, hx⟩ : ∃ x, x = l.getD (l.length - 1) 0 := ⟨_, rfl⟩
  rw [← hx] at hc sx ⊢
  obtain ⟨n, hn⟩ : ∃ n, l.length = n + 1 := ⟨l.length - 1, by omega⟩
  rw [hn] at hc hl2 ⊢
  simp only [Nat.add_sub_cancel] at hc ⊢
  have t0 : (((n + 1 : Nat) : Int) == 0) = false := beq_eq_false_iff_ne.2 (by omega)
  clear hx hn hl hs
  go_enter Tryz.func118, Tryz.ntmps118
  go_wp2
  go_loop [3, 4] (fun c t => ∃ k : Nat, c = .int .i64 k ∧ t = .int .u32 ((x / 2 ^ k : Nat) : Int) ∧ k ≤ 32 ∧ (0 < k → x / 2 ^ (k - 1) ≠ 0)) (fun c _ => 33 - (intOf c).toNat)
  case atStart => exact ⟨0, rfl, by simp, by omega, by omega⟩
  case round =>
    obtain ⟨k, rfl, rfl, hk, hz⟩ := hrel
    have HZ : Hid (0 < k → x / 2 ^ (k - 1) ≠ 0) := hz
    clear hz
    obtain ⟨y, hy⟩ : ∃ y, y = x / 2 ^ k := ⟨_, rfl⟩
    rw [← hy]
    have HY : Hid (y = x / 2 ^ k) := hy
    have hyb : y ≤ x := by rw [hy]; exact Nat.div_le_self ..
    clear hy
    by_cases h0 : y = 0
    · have t1 : ((y : Int) != 0) = false := by simp [h0]
      have HF : Hid (Bits x k) := by
        refine ⟨?_, fun hx0 => ?_⟩
        · have := HY.out
          rw [h0] at this
          exact (Nat.div_eq_zero_iff_lt (Nat.two_pow_pos k)).1 this.symm
        · rcases Nat.eq_zero_or_pos k with e | e
          · subst e; have := HY.out; simp at this; omega
          · exact ⟨e, half_step x _ (HZ.out e)⟩
      clear h0
      go_wp2
      go_ret
      exact ⟨k, ret_int (by omega), HF.out, hk, rfl⟩
    · have t1 : ((y : Int) != 0) = true := by rw [bne_iff_ne]; omega
      have hk2 : k < 32 := half_le x k sx (by rw [← HY.out]; exact h0)
      have HH : Hid (y / 2 = x / 2 ^ (k + 1)) := by show _ = _; rw [HY.out, Nat.div_div_eq_div_mul, Nat.pow_succ]
      have HN : Hid (x / 2 ^ k ≠ 0) := by show _ ≠ _; rw [← HY.out]; exact h0
      clear h0
      go_wp2
      go_round
      case rel => exact ⟨k + 1, by go_num, by rw [← HH.out]; simp, by omega, fun _ => by simpa using HN.out⟩
      case measure => simp [intOf]; omega
theorem or_u32 (a b : Nat) (ha : a < 4294967296) (hb : b < 4294967296) : bits .or .u32 (a : Int) (b : Int) = ((a ||| b : Nat) : Int) := by
  have ho : a ||| b < 2 ^ 32 := Nat.or_lt_two_pow (by omega) (by omega)
  have e1 : (BitVec.ofInt 32 (a : Int)).toNat = a := by rw [BitVec.ofInt_natCast, BitVec.toNat_ofNat]; omega
  have e2 : (BitVec.ofInt 32 (b : Int)).toNat = b := by rw [BitVec.ofInt_natCast, BitVec.toNat_ofNat]; omega
  show IntKind.u32.wrap ((BitVec.ofInt 32 (a : Int) ||| BitVec.ofInt 32 (b : Int)).toNat : Int) = _
  rw [BitVec.toNat_or, e1, e2, IntKind.wrap_u32]
  omega
theorem or_carry (c x s : Nat) (hs : s < 32) (hc : c < 2 ^ s) : c ||| (x * 2 ^ s % 4294967296) = c + x * 2 ^ s % 4294967296 := by
  have e : x * 2 ^ s % 4294967296 = 2 ^ s * (x % 2 ^ (32 - s)) := by
    have h32 : (4294967296 : Nat) = 2 ^ (32 - s) * 2 ^ s := by rw [← Nat.pow_add, show 32 - s + s = 32 by omega]
    rw [h32, Nat.mul_mod_mul_right, Nat.mul_comm]
  rw [e, Nat.or_comm, ← Nat.two_pow_add_eq_or_of_lt hc, Nat.add_comm]
theorem left_step (D : List Nat) (k c x S s : Nat) (h : D.length = k) (hv : val D + pw k * c = S * 2 ^ s) :
    val (D ++ [c + x * 2 ^ s % 4294967296]) + pw (k + 1) * (x * 2 ^ s / 4294967296) = (S + pw k * x) * 2 ^ s := by
  have e1 : val (D ++ [c + x * 2 ^ s % 4294967296]) = val D + pw k * (c + x * 2 ^ s % 4294967296) := by rw [val_append, h]; simp [val]
  have e2 : pw (k + 1) * (x * 2 ^ s / 4294967296) = pw k * (4294967296 * (x * 2 ^ s / 4294967296)) := by
    show 4294967296 * pw k * _ = _
    rw [Nat.mul_comm 4294967296 (pw k), Nat.mul_assoc]
  have e3 : pw k * (x * 2 ^ s % 4294967296) + pw k * (4294967296 * (x * 2 ^ s / 4294967296)) = pw k * (x * 2 ^ s) := by rw [← Nat.mul_add, Nat.mod_add_div]
  rw [e1, e2, Nat.mul_add, Nat.add_mul, ← hv, Nat.mul_assoc]
  omega
theorem set_mid (w : Nat) (D : List Nat) (k m c d : Nat) (h : D.length = k) : (List.replicate w 0 ++ (D ++ (c :: List.replicate m 0))).set (k + w) d = List.replicate w 0 ++ (D ++ (d :: List.replicate m 0)) := by
  subst h
  rw [List.set_append_right _ _ (by simp), List.set_append_right _ _ (by simp)]
  simp
theorem getD_mid (w : Nat) (D : List Nat) (k c : Nat) (Z : List Nat) (h : D.length = k) : (List.replicate w 0 ++ (D ++ (c :: Z))).getD (k + w) 0 = c := by
  subst h
  rw [List.getD_eq_getElem?_getD, List.getElem?_append_right (by simp), List.getElem?_append_right (by simp)]
  simp
set_option maxHeartbeats 1000000 in
theorem left_words (l : List Nat) (aa : Option Addr) (g cap n : Nat) (w : World) (hl0 : 0 < l.length) (hl1 : l.length ≤ 100000000) (hn : n ≤ 1000000000)
    (SA : Hid (∀ x ∈ l, x < 4294967296)) (PA : Hid (0 < l.length → aa = some ⟨g, 0, none⟩)) (CA : Hid (∀ i, i < l.length → w.cell? ⟨g, i, none⟩ = some (.int .u32 (l.getD i 0 : Int)))) (GA : Hid (0 < l.length → g < w.heap.size)) :
    Calls Tryz.prog 119 #[.slice aa l.length cap, .int .u64 n] w fun e w' => ∃ r, e = .returned r ∧ NS w' r (val l * 2 ^ n) ∧ Below w.heap.size w w' := by
  obtain rfl := PA.out hl0
  have gA := GA.out hl0
  obtain ⟨ww, hww⟩ : ∃ ww, ww = n / 32 := ⟨_, rfl⟩
  obtain ⟨s, hs⟩ : ∃ s, s = n % 32 := ⟨_, rfl⟩
  have HNS : Hid (n = 32 * ww + s) := by show _ = _; omega
  have s32 : s < 32 := by omega
  have eW : (n : Int) / 32 = (ww : Int) := by omega
  have eS : (n : Int) % 32 = (s : Int) := by omega
  have hwb : ww ≤ 100000000 := by omega
  have t0 : ((l.length : Int) == 0) = false := beq_eq_false_iff_ne.2 (by omega)
  clear hww hs PA GA
  go_enter Tryz.func119, Tryz.ntmps119
  obtain ⟨i0, hi, hz0, hz1, hz2⟩ := info_parts Tryz.info32
  go_wp2_with (at_make; refine wpList_make_full _ rfl _ _ 53 rfl w.heap.size 106 i0 (.int .u32 0) 1 Tryz.underlying53 hi hz0 hz1 .i64 .i64 _ _ (l.length + ww + 1) rfl rfl (by omega) (by omega) (by rw [hz2]; omega) (by unfold maxLen; omega) (Nat.le_refl _) ?_)
  intro w1 hown hgrow
  have hrow := Row.of_make hown
  have hbel : Below w.heap.size w w1 := (Below.refl _ _).grown hgrow (Nat.le_refl _) (by simp)
  have HR : Hid (Row w1 w.heap.size (List.replicate (l.length + ww + 1) 0)) := hrow
  have HB : Hid (Below w.heap.size w w1) := hbel
  clear hown hgrow hrow hbel hi hz0 hz1 hz2 eW eS
  go_wp2
  go_loopw [8] (fun i wr => ∃ (k c : Nat) (D : List Nat), k ≤ l.length ∧ i = .int .i64 k ∧ c < 2 ^ s ∧ D.length = k ∧ (∀ x ∈ D, x < 4294967296) ∧ val D + pw k * c = val (l.take k) * 2 ^ s ∧ Row wr w.heap.size (List.replicate ww 0 ++ (D ++ (c :: List.replicate (l.length - k) 0))) ∧ Below w.heap.size w wr) (fun i _ => l.length - (intOf i).toNat)
  case atStart =>
    refine ⟨0, 0, [], Nat.zero_le _, rfl, Nat.two_pow_pos s, rfl, by simp, by simp [val], ?_, HB.out⟩
    have := HR.out
    rw [show l.length + ww + 1 = ww + (1 + l.length) by omega, ← List.replicate_append_replicate, ← List.replicate_append_replicate] at this
    simpa using this
  case round =>
    obtain ⟨k, c, D, hk, rfl, hc, hD, hDs, hv, hrow, hbel⟩ := hrel
    have HV : Hid (val D + pw k * c = val (l.take k) * 2 ^ s) := hv
    have HD : Hid (D.length = k) := hD
    have HDs : Hid (∀ x ∈ D, x < 4294967296) := hDs
    have HRo : Hid (Row wr w.heap.size (List.replicate ww 0 ++ (D ++ (c :: List.replicate (l.length - k) 0)))) := hrow
    have HBr : Hid (Below w.heap.size w wr) := hbel
    have h2s : 2 ^ s ≤ 2147483648 := by
      have : 2 ^ s ≤ 2 ^ 31 := Nat.pow_le_pow_right (by omega) (by omega)
      omega
    clear hv hDs hbel HR HB
    by_cases hlt : k < l.length
    · obtain ⟨m, hm⟩ : ∃ m, l.length - k = m + 1 := ⟨l.length - k - 1, by omega⟩
      have hsz : (List.replicate ww 0 ++ (D ++ (c :: List.replicate (l.length - k) 0))).length = l.length + ww + 1 := by simp; omega
      have cr : wr.cell? ⟨w.heap.size, k + ww, none⟩ = some (.int .u32 (c : Int)) := by
        have := hrow.cell (k + ww) (by omega)
        rwa [getD_mid ww D k c _ hD] at this
      have fr : wr.frozen? ⟨w.heap.size, k + ww, none⟩ = false := hrow.frozen (k + ww)
      have cr2 : wr.cell? ⟨w.heap.size, k + ww + 1, none⟩ = some (.int .u32 0) := by
        have h1 := hrow.cell (k + ww + 1) (by omega)
        have h2 : (List.replicate ww 0 ++ (D ++ (c :: List.replicate (l.length - k) 0))).getD (k + ww + 1) 0 = 0 := by
          have := getD_mid ww (D ++ [c]) (k + 1) 0 (List.replicate m 0) (by simp [hD])
          rw [hm, List.replicate_succ]
          rw [show k + ww + 1 = k + 1 + ww by omega]
          simpa using this
        rw [h2] at h1; exact h1
      have fr2 : wr.frozen? ⟨w.heap.size, k + ww + 1, none⟩ = false := hrow.frozen (k + ww + 1)
      have ca : wr.cell? ⟨g, k, none⟩ = some (.int .u32 (l.getD k 0 : Int)) := (HBr.out.cell (p := ⟨g, k, none⟩) gA).trans (CA.out k hlt)
      have sx := List.getD_lt_of SA.out k
      obtain ⟨x, hx⟩ : ∃ x, x = l.getD k 0 := ⟨_, rfl⟩
      rw [← hx] at ca sx
      have HX : Hid (x = l.getD k 0) := hx
      have hxs : x * 2 ^ s < 18446744073709551616 := by
        have := Nat.mul_le_mul (show x ≤ 4294967295 by omega) h2s
        omega
      have eV : IntKind.u64.wrap ((x : Int) * 2 ^ s) = ((x * 2 ^ s : Nat) : Int) := by
        rw [show (2 : Int) ^ s = ((2 ^ s : Nat) : Int) by simp, ← Int.natCast_mul]; exact wrapN _ hxs
      have hoc := or_carry c x s s32 hc
      obtain ⟨v, gv⟩ : ∃ v, v = x * 2 ^ s := ⟨_, rfl⟩
      rw [← gv] at eV hxs hoc
      have eO : bits .or .u32 (c : Int) ((v % 4294967296 : Nat) : Int) = ((c + v % 4294967296 : Nat) : Int) := by
        rw [or_u32 _ _ (by omega) (by omega), hoc]
      have eL : (v : Int) % 4294967296 = ((v % 4294967296 : Nat) : Int) := by omega
      have eH : (v : Int) / 4294967296 = ((v / 4294967296 : Nat) : Int) := by omega
      have hvh : v / 4294967296 < 2 ^ s := by
        rw [Nat.div_lt_iff_lt_mul (by omega), gv, Nat.mul_comm]; exact Nat.mul_lt_mul_of_pos_left (by omega) (Nat.two_pow_pos s)
      have eO2 : bits .or .u32 0 ((v / 4294967296 : Nat) : Int) = ((v / 4294967296 : Nat) : Int) := by
        have := or_u32 0 (v / 4294967296) (by omega) (by omega)
        simpa using this
      obtain ⟨dg, gdg⟩ : ∃ dg, dg = c + v % 4294967296 := ⟨_, rfl⟩
      obtain ⟨vl, gvl⟩ : ∃ vl, vl = v % 4294967296 := ⟨_, rfl⟩
      obtain ⟨vh, gvh⟩ : ∃ vh, vh = v / 4294967296 := ⟨_, rfl⟩
      have hdg : dg < 4294967296 := by
        have : c ||| (v % 4294967296) < 2 ^ 32 := Nat.or_lt_two_pow (by omega) (by omega)
        omega
      rw [← gdg] at eO
      rw [← gvl] at eO eL
      rw [← gvh] at eH hvh eO2
      have HG : Hid (v = x * 2 ^ s ∧ dg = c + v % 4294967296 ∧ vh = v / 4294967296) := ⟨gv, gdg, gvh⟩
      have hvb : (v : Int) ≤ 18446744073709551615 := by omega
      have hvl : vl < 4294967296 := by omega
      have hvh2 : vh < 4294967296 := by omega
      clear gv gdg gvl gvh hoc hx hrow hsz hD hm hxs
      go_wp2
      go_roundw
      case rel =>
        obtain ⟨m, hm⟩ : ∃ m, l.length - k = m + 1 := ⟨l.length - k - 1, by omega⟩
        refine ⟨k + 1, vh, D ++ [dg], by omega, by go_num, hvh, by simp [HD.out], mem_snoc HDs.out hdg, ?_, ?_, ?_⟩
        · rw [val_take_succ l k, ← HX.out, HG.out.2.1, HG.out.2.2, HG.out.1]
          exact left_step D k c x _ s HD.out HV.out
        · have r1 := HRo.out.set (k + ww) (dg : Int) dg rfl
          rw [set_mid ww D k _ c dg HD.out, hm, List.replicate_succ] at r1
          have r2 := r1.set (k + 1 + ww) (vh : Int) vh rfl
          rw [show List.replicate ww 0 ++ (D ++ dg :: 0 :: List.replicate m 0) = List.replicate ww 0 ++ ((D ++ [dg]) ++ (0 :: List.replicate m 0)) from by simp, set_mid ww (D ++ [dg]) (k + 1) m 0 vh (by simp [HD.out])] at r2
          rw [show l.length - (k + 1) = m by omega]
          rw [show k + ww + 1 = k + 1 + ww by omega]
          exact r2
        · exact (HBr.out.setCell (Nat.le_refl _) _).setCell (Nat.le_refl _) _
      case measure => simp [intOf]; omega
    · obtain rfl : k = l.length := by omega
      have hrow2 : Row wr w.heap.size (List.replicate ww 0 ++ (D ++ [c])) := by simpa using hrow
      have hsm : ∀ x ∈ List.replicate ww 0 ++ (D ++ [c]), x < 4294967296 := by
        intro z hz
        rw [List.mem_append] at hz
        rcases hz with hz | hz
        · rw [List.eq_of_mem_replicate hz]; omega
        · exact mem_snoc HDs.out (by omega) z hz
      have hsl := hrow2.sl hsm
      have hlen : (List.replicate ww 0 ++ (D ++ [c])).length = l.length + ww + 1 := by simp [hD]; omega
      rw [hlen] at hsl
      have HSL : Hid (Sl wr (.slice (some ⟨w.heap.size, 0, none⟩) (l.length + ww + 1) (l.length + ww + 1)) (List.replicate ww 0 ++ (D ++ [c]))) := hsl
      have HVV : Hid (val (List.replicate ww 0 ++ (D ++ [c])) = val l * 2 ^ n) := by
        show _ = _
        have h1 := HV.out
        rw [List.take_of_length_le (Nat.le_refl _)] at h1
        have h2 : val (D ++ [c]) = val D + pw l.length * c := by rw [val_append, HD.out]; simp [val]
        have h3 : val (List.replicate ww 0) = 0 := by have := val_zeros [] ww; simpa [val] using this
        rw [val_append, h3, h2, h1, List.length_replicate, HNS.out, Nat.pow_add, ← pw_two_pow]
        simp only [Nat.zero_add, Nat.mul_assoc, Nat.mul_comm, Nat.mul_left_comm]
      have HLN : Hid ((List.replicate ww 0 ++ (D ++ [c])).length ≤ 1000000000) := by show _ ≤ _; omega
      clear hsl hrow2 hrow hsm hlen hD
      go_wp2_with fail
      refine (trim_any _ _ _ HLN.out HSL.out).mono ?_
      rw [HVV.out]
      rintro e w2 ⟨s', rfl, hns, rfl⟩
      go_wp2
      go_ret
      exact ⟨s', rfl, hns, HBr.out⟩
theorem leftW_any (s : Value) (a n m : Nat) (w : World) (ha : NS w s a) (hm : a < pw m) (hm' : m ≤ 100000000) (hn : n ≤ 1000000000) :
    Calls Tryz.prog 119 #[s, .int .u64 n] w fun e w' => ∃ r, e = .returned r ∧ NS w' r (a * 2 ^ n) ∧ Below w.heap.size w w' := by
  obtain ⟨l, aa, g, cap, rfl, va, na, sa, pa, cell, _, lt⟩ := ha.open
  subst va
  have l1 : l.length ≤ 100000000 := Nat.le_trans (na.len hm) hm'
  by_cases h0 : l.length = 0
  · obtain rfl : l = [] := List.length_eq_zero_iff.1 h0
    clear ha pa cell lt hm
    go_enter Tryz.func119, Tryz.ntmps119
    go_wp2
    go_ret
    exact ⟨_, rfl, ⟨[], ⟨by simp, Or.inl ⟨rfl, rfl⟩⟩, by simp [val], Or.inl rfl⟩, Below.refl _ _⟩
  · exact left_words l aa g cap n w (by omega) l1 hn sa pa cell lt
end Go.Proofs.YtcnfhndejkngkaaGreatDoor
