import Derived.Test.YtfbgblidlabipaaGreatDoorJnH
import Derived.Test.YtfbgblidlabipaaGreatDoorBigP
import Derived.Test.YtfbgblidlabipaaGreatDoorJnP
import Derived.Test.YtfbgblidlabipaaGreatDoorJnF
import Derived.Test.YtfbgblidlabipaaGreatDoorJnE
import Derived.Test.YtfbgblidlabipaaGreatDoorJnI
section
/- The reference: IsSquare, PeriodOf, surdFault. -/
set_option linter.unusedSimpArgs false
set_option linter.unusedVariables false
set_option maxRecDepth 100000
namespace Go.Proofs.YtfbgblidlabipaaGreatDoor
open Go.RowKit LgM CfM

set_option maxHeartbeats 4000000 in
theorem IsSquare_small (n : Nat) (w : World) (hn : n < 1073741824) :
    Calls Tryz.prog 75 #[.int .i64 (n : Int)] w fun e w' => ∃ r : Nat, (r * r ≤ n ∧ n < (r + 1) * (r + 1)) ∧ e = .returned (.bool (decide (r * r = n))) ∧ Below w.heap.size w w' := by
  go_enter Tryz.func75, Tryz.ntmps75
  go_wp2_with fail
  obtain ⟨W0, hW0⟩ : ∃ W0, W0 = ((w.alloc (.cells #[.bool false, .slice none 0 0] 45)).alloc (.cells #[.bool false, .slice none 0 0] 45)) := ⟨_, rfl⟩
  have K0 : Below w.heap.size w W0 := by rw [hW0]; exact ((Below.refl _ _).alloc (Nat.le_refl _) _).alloc (by simp) _
  have S0 : Slot W0 w.heap.size := by rw [hW0]; exact (slot_new w _ _).below ((Below.refl _ _).alloc (Nat.le_refl _) _) (Nat.le_refl _)
  have S1 : Slot W0 (w.heap.size + 1) := by rw [hW0]; have := slot_new (w.alloc (.cells #[.bool false, .slice none 0 0] 45)) (.bool false) (.slice none 0 0); simpa using this
  rw [← hW0]
  have z0 : W0.heap.size = w.heap.size + 2 := by rw [hW0]; simp
  clear hW0
  refine (B_any (n : Int) W0 (by omega) (by omega)).mono ?_
  rintro e w1 ⟨b1, rfl, g1, h1, k1⟩
  have HS0 : Hid (Slot w1 w.heap.size) := S0.below k1 (Nat.le_refl _)
  have HS1 : Hid (Slot w1 (w.heap.size + 1)) := S1.below k1 (Nat.le_refl _)
  have HK1 : Hid (Below w.heap.size w w1) := K0.trans (k1.mono (by omega))
  have HB1 : Hid (BigAt w1 b1 (n : Int)) := h1
  have z1 : w.heap.size + 2 ≤ w1.heap.size := by have := k1.size; omega
  clear S0 S1 k1 h1 K0
  go_wp2_with fail
  refine (Sqrt_small (w.heap.size + 1) b1 n w1 HS1.out HB1.out hn).mono ?_
  rintro e w2 ⟨r, rfl, h2, hr, u2⟩
  have hr5 : r < 32768 := by
    rcases Nat.lt_or_ge r 32768 with h | h
    · exact h
    · have := Nat.mul_le_mul h h; omega
  have HS0 : Hid (Slot w2 w.heap.size) := HS0.out.upd u2 (by omega)
  have HB2 : Hid (BigAt w2 (w.heap.size + 1) (r : Int)) := h2
  have HK2 : Hid (Below w.heap.size w w2) := HK1.out.trans (u2.below (by omega) (by omega))
  have z2 : w.heap.size + 2 ≤ w2.heap.size := Nat.le_trans z1 u2.size
  have HRr : Hid (r * r ≤ n ∧ n < (r + 1) * (r + 1)) := hr
  clear HS1 h2 u2 hr HB1
  go_wp2_with fail
  refine (B_any 2 w2 (by omega) (by omega)).mono ?_
  rintro e w3 ⟨b3, rfl, g3, h3, k3⟩
  have HS3 : Hid (Slot w3 w.heap.size) := HS0.out.below k3 (Nat.le_refl _)
  have HB3 : Hid (BigAt w3 (w.heap.size + 1) (r : Int)) := HB2.out.below k3 (Nat.le_refl _)
  have HT3 : Hid (BigAt w3 b3 ((2 : Nat) : Int)) := h3
  have HK3 : Hid (Below w.heap.size w w3) := HK2.out.trans (k3.mono (by omega))
  have z3 : w.heap.size + 2 ≤ w3.heap.size := Nat.le_trans z2 k3.size
  clear HS0 HB2 k3 h3
  go_wp2_with fail
  refine (Exp_nil w.heap.size (w.heap.size + 1) b3 (r : Int) 2 1 1 w3 HS3.out HB3.out HT3.out (by rw [pw_one, Int.natAbs_natCast]; omega) (by rw [pw_one]; omega) (by omega) (by omega) (by omega)).mono ?_
  rintro e w4 ⟨rfl, h4, u4⟩
  obtain ⟨R, hR⟩ : ∃ R : Nat, R = r * r := ⟨_, rfl⟩
  have hRI : (r : Int) ^ 2 = (R : Int) := by rw [hR, Int.natCast_mul, Int.pow_succ, Int.pow_succ, Int.pow_zero, Int.one_mul]
  rw [hRI] at h4
  have HB4 : Hid (BigAt w4 w.heap.size (R : Int)) := h4
  have HK4 : Hid (Below w.heap.size w w4) := HK3.out.trans (u4.below (by omega) (Nat.le_refl _))
  have HR : Hid (R = r * r) := hR
  have hRb : R ≤ n := by have := HRr.out.1; omega
  have z4 : w.heap.size + 2 ≤ w4.heap.size := Nat.le_trans z3 u4.size
  clear h4 u4 HS3 HB3 HT3 hR hRI
  go_wp2_with fail
  refine (B_any (n : Int) w4 (by omega) (by omega)).mono ?_
  rintro e w5 ⟨b5, rfl, g5, h5, k5⟩
  have HB5 : Hid (BigAt w5 w.heap.size (R : Int)) := HB4.out.below k5 (Nat.le_refl _)
  have HN5 : Hid (BigAt w5 b5 (n : Int)) := h5
  have HK5 : Hid (Below w.heap.size w w5) := HK4.out.trans (k5.mono (by omega))
  clear h5 k5
  go_wp2_with fail
  refine (Cmp_any w.heap.size b5 (R : Int) (n : Int) 1 1 w5 HB5.out HN5.out (by rw [pw_one, Int.natAbs_natCast]; omega) (by rw [pw_one, Int.natAbs_natCast]; omega) (by omega) (by omega)).mono ?_
  rintro e w6 ⟨rfl, q, hw6⟩
  rw [hw6]
  clear hw6 w6
  have hcz : (cmpZ (R : Int) (n : Int) == 0) = decide (r * r = n) := by
    rw [← HR.out]
    by_cases h : R = n
    · subst h; simp [cmpZ]
    · have : R < n := by omega
      have e : cmpZ (R : Int) (n : Int) = -1 := by unfold cmpZ; rw [if_pos (by omega)]
      rw [e]; simp [h]
  generalize hbd : decide (r * r = n) = bd at hcz
  have HBd : Hid (decide (r * r = n) = bd) := hbd
  generalize cmpZ (R : Int) (n : Int) = cz at hcz ⊢
  clear hbd
  go_wp2
  go_ret
  exact ⟨r, HRr.out, by rw [HBd.out]; rfl, below_drewN' HK5.out⟩

def slLen : Value → Nat
  | .slice _ n _ => n
  | _ => 0

/-- The fault's code of a root. -/
def SfIs (d c : Int) : Prop := ((d < 2 ∨ 1000000 < d) ∧ c = 3) ∨ ((∃ r : Nat, (2 ≤ d ∧ d ≤ 1000000) ∧ (r : Int) * r = d) ∧ c = 7) ∨ (∃ n r : Nat, d = n ∧ n ≤ 1000000 ∧ Rn n r ∧ c = 0)

set_option maxHeartbeats 2000000 in
theorem surdFault_any (d : Int) (w : World) :
    Calls Tryz.prog 16 #[.int .i64 d] w fun e w' => ∃ c, e = .returned (.agg #[.int .i64 c, .int .i64 0]) ∧ SfIs d c ∧ Below w.heap.size w w' := by
  have hF : Cl w.heap.size [.int .i64 0, .int .i64 0] 25 (w.alloc (.cells #[.int .i64 0, .int .i64 0] 25)) := Cl.new [.int .i64 0, .int .i64 0] _ w
  by_cases h1 : d < 2 ∨ 1000000 < d
  · have HO : Hid (SfIs d 3) := .inl ⟨h1, rfl⟩
    rcases h1 with h1 | h1
    · have t1 : decide (d < 2) = true := decide_eq_true h1
      clear h1
      go_enter Tryz.func16, Tryz.ntmps16
      go_wp2_with fail
      refine (F_any 3 0 _).mono ?_
      rintro e w9 ⟨rfl, k9⟩
      have F9 := hF.below k9
      have HF9 : Hid (Cl w.heap.size [.int .i64 0, .int .i64 0] 25 w9) := F9
      have HK9 : Hid (Below w.heap.size w w9) := ((Below.refl _ w).alloc (Nat.le_refl _) _).trans (k9.mono (by simp))
      have y0 := F9.cell 0
      have y1 := F9.cell 1
      have y2 := F9.frozen 0
      have y3 := F9.frozen 1
      simp at y0 y1
      clear k9 F9
      go_wp2
      have Z := (HF9.out.set 0 (.int .i64 3)).set 1 (.int .i64 0)
      have z0 := Z.cell 0
      have z1 := Z.cell 1
      simp at z0 z1
      exact bodyPost_ret (v := .agg #[.int .i64 3, .int .i64 0]) (by simp [results, Tryz.results16, go_sem, z0, z1]) rfl ⟨3, rfl, HO.out, (HK9.out.setCell (Nat.le_refl _) _).setCell (Nat.le_refl _) _⟩
    · have t1 : decide (d < 2) = false := decide_eq_false (by omega)
      have t2 : decide (1000000 < d) = true := decide_eq_true h1
      clear h1
      go_enter Tryz.func16, Tryz.ntmps16
      go_wp2_with fail
      refine (F_any 3 0 _).mono ?_
      rintro e w9 ⟨rfl, k9⟩
      have F9 := hF.below k9
      have HF9 : Hid (Cl w.heap.size [.int .i64 0, .int .i64 0] 25 w9) := F9
      have HK9 : Hid (Below w.heap.size w w9) := ((Below.refl _ w).alloc (Nat.le_refl _) _).trans (k9.mono (by simp))
      have y0 := F9.cell 0
      have y1 := F9.cell 1
      have y2 := F9.frozen 0
      have y3 := F9.frozen 1
      simp at y0 y1
      clear k9 F9
      go_wp2
      have Z := (HF9.out.set 0 (.int .i64 3)).set 1 (.int .i64 0)
      have z0 := Z.cell 0
      have z1 := Z.cell 1
      simp at z0 z1
      exact bodyPost_ret (v := .agg #[.int .i64 3, .int .i64 0]) (by simp [results, Tryz.results16, go_sem, z0, z1]) rfl ⟨3, rfl, HO.out, (HK9.out.setCell (Nat.le_refl _) _).setCell (Nat.le_refl _) _⟩
  · obtain ⟨n, rfl⟩ := Int.eq_ofNat_of_zero_le (show 0 ≤ d by omega)
    have hn2 : 2 ≤ n ∧ n ≤ 1000000 := by omega
    have t1 : decide ((n : Int) < 2) = false := decide_eq_false (by omega)
    have t2 : decide (1000000 < (n : Int)) = false := decide_eq_false (by omega)
    clear h1
    go_enter Tryz.func16, Tryz.ntmps16
    go_wp2_with fail
    refine (IsSquare_small n _ (by omega)).mono ?_
    rintro e w1 ⟨r, hr, rfl, k1⟩
    have F1 := hF.below k1
    have f0 := F1.cell 0
    have f1 := F1.cell 1
    have f2 := F1.frozen 0
    have f3 := F1.frozen 1
    simp at f0 f1
    have HF1 : Hid (Cl w.heap.size [.int .i64 0, .int .i64 0] 25 w1) := F1
    have HK1 : Hid (Below w.heap.size w w1) := ((Below.refl _ w).alloc (Nat.le_refl _) _).trans (k1.mono (by simp))
    clear F1 k1 hF
    by_cases hsq : r * r = n
    · have HO : Hid (SfIs (n : Int) 7) := .inr (.inl ⟨⟨r, by omega, by rw [← Int.natCast_mul, hsq]⟩, rfl⟩)
      rw [decide_eq_true hsq]
      clear hsq hr
      clear f0 f1 f2 f3
      go_wp2_with fail
      refine (F_any 7 0 _).mono ?_
      rintro e w9 ⟨rfl, k9⟩
      have F9 := HF1.out.below k9
      have HF9 : Hid (Cl w.heap.size [.int .i64 0, .int .i64 0] 25 w9) := F9
      have HK9 : Hid (Below w.heap.size w w9) := HK1.out.trans (k9.mono HK1.out.size)
      have y0 := F9.cell 0
      have y1 := F9.cell 1
      have y2 := F9.frozen 0
      have y3 := F9.frozen 1
      simp at y0 y1
      clear k9 F9
      go_wp2
      have Z := (HF9.out.set 0 (.int .i64 7)).set 1 (.int .i64 0)
      have z0 := Z.cell 0
      have z1 := Z.cell 1
      simp at z0 z1
      exact bodyPost_ret (v := .agg #[.int .i64 7, .int .i64 0]) (by simp [results, Tryz.results16, go_sem, z0, z1]) rfl ⟨7, rfl, HO.out, (HK9.out.setCell (Nat.le_refl _) _).setCell (Nat.le_refl _) _⟩
    · have HO : Hid (SfIs (n : Int) 0) := .inr (.inr ⟨n, r, rfl, hn2.2, ⟨by rcases r with _ | r; (have := hr.2; omega); omega, by omega, hr.2⟩, rfl⟩)
      rw [decide_eq_false hsq]
      clear hsq hr
      go_wp2
      have HF9 := HF1
      have HK9 := HK1
      have Z := (HF9.out.set 0 (.int .i64 0)).set 1 (.int .i64 0)
      have z0 := Z.cell 0
      have z1 := Z.cell 1
      simp at z0 z1
      exact bodyPost_ret (v := .agg #[.int .i64 0, .int .i64 0]) (by simp [results, Tryz.results16, go_sem, z0, z1]) rfl ⟨0, rfl, HO.out, (HK9.out.setCell (Nat.le_refl _) _).setCell (Nat.le_refl _) _⟩

end Go.Proofs.YtfbgblidlabipaaGreatDoor
end

section
/- The long numbers' SetString of decimal digits; the reference's Digits. -/
set_option linter.unusedSimpArgs false
set_option linter.unusedVariables false
set_option maxRecDepth 100000
namespace Go.Proofs.YtfbgblidlabipaaGreatDoor
open Go.RowKit LgM

theorem rd_snoc (l : List UInt8) (c : UInt8) : rd 0 (l ++ [c]) = rd 0 l * 10 + (c.toNat - 48) := by simp [rd]
theorem rd_take (l : List UInt8) (i : Nat) (h : i < l.length) : rd 0 (l.take (i + 1)) = rd 0 (l.take i) * 10 + (l[i].toNat - 48) := by
  rw [List.take_succ_eq_append_getElem h, rd_snoc]

theorem rd_le (l : List UInt8) (hd : ∀ c ∈ l, 48 ≤ c.toNat ∧ c.toNat ≤ 57) : rd 0 l < 10 ^ l.length := by
  obtain ⟨n, hn⟩ : ∃ n, n = l.length := ⟨_, rfl⟩
  induction n generalizing l with
  | zero => have : l = [] := List.eq_nil_of_length_eq_zero hn.symm; subst this; simp [rd]
  | succ n ih =>
    have hne : l ≠ [] := by intro h; subst h; simp at hn
    have hs := (List.dropLast_concat_getLast hne).symm
    have h1 := ih l.dropLast (fun c hc => hd c (List.dropLast_subset l hc)) (by simp; omega)
    have h2 := hd _ (List.getLast_mem hne)
    rw [List.length_dropLast, ← hn, Nat.add_sub_cancel] at h1
    rw [← hn, hs, rd_snoc, Nat.pow_succ]
    omega
theorem ten_pw (i : Nat) : 10 ^ i ≤ pw i := by
  induction i with
  | zero => decide
  | succ i ih => rw [Nat.pow_succ, Nat.mul_comm, show pw (i + 1) = 4294967296 * pw i from rfl]; exact Nat.mul_le_mul (by omega) ih
theorem rd_pw (l : List UInt8) (i : Nat) (hd : ∀ c ∈ l, 48 ≤ c.toNat ∧ c.toNat ≤ 57) (h : i ≤ l.length) : rd 0 (l.take i) < pw i := by
  have := rd_le (l.take i) (fun c hc => hd c (List.mem_of_mem_take hc))
  rw [List.length_take, Nat.min_eq_left h] at this
  exact Nat.lt_of_lt_of_le this (ten_pw i)

def dgi (l : List UInt8) (i : Nat) : Nat := (l.getD i 0).toNat
theorem str_at (l : List UInt8) (i : Nat) (h : i < (⟨l.toArray⟩ : ByteArray).size) : (((⟨l.toArray⟩ : ByteArray)[i]'h).toNat : Int) = (dgi l i : Int) := by
  have h2 : i < l.length := by simpa [ByteArray.size] using h
  have e : (⟨l.toArray⟩ : ByteArray)[i]'h = l[i] := rfl
  rw [e]; simp [dgi, List.getD_eq_getElem?_getD, h2]
theorem dgi_bd {l : List UInt8} (hd : ∀ c ∈ l, 48 ≤ c.toNat ∧ c.toNat ≤ 57) (i : Nat) (h : i < l.length) : 48 ≤ dgi l i ∧ dgi l i ≤ 57 := by
  have := hd l[i] (List.getElem_mem h)
  simpa [dgi, List.getD_eq_getElem?_getD, h] using this
theorem rd_dgi (l : List UInt8) (i : Nat) (h : i < l.length) : rd 0 (l.take (i + 1)) = rd 0 (l.take i) * 10 + (dgi l i - 48) := by
  rw [rd_take l i h]; simp [dgi, List.getD_eq_getElem?_getD, h]

set_option maxHeartbeats 4000000 in
theorem SetString_dec (bz : Nat) (l : List UInt8) (w : World) (hz : Slot w bz) (hd : ∀ c ∈ l, 48 ≤ c.toNat ∧ c.toNat ≤ 57) (h1 : 1 ≤ l.length) (h2 : l.length ≤ 20000) :
    Calls Tryz.prog 76 #[.pointer (some ⟨bz, 0, none⟩), .string ⟨l.toArray⟩, .int .i64 10] w fun e w' => e = .returned (.tuple #[.pointer (some ⟨bz, 0, none⟩), .bool true]) ∧ BigAt w' bz (rd 0 l : Int) ∧ Upd bz w w' := by
  obtain ⟨s, hs⟩ : ∃ s : ByteArray, s = ⟨l.toArray⟩ := ⟨_, rfl⟩
  obtain ⟨N, hN⟩ : ∃ N, N = l.length := ⟨_, rfl⟩
  have hsz : s.size = N := by rw [hs, hN]; simp [ByteArray.size]
  have hx : ∀ (i : Nat) (h : i < s.size), ((s[i]'h).toNat : Int) = (dgi l i : Int) := fun i h => by
    subst hs; exact str_at l i h
  have h0 := dgi_bd hd 0 (by omega)
  have x0 : ((dgi l 0 : Int) == 45) = false := beq_eq_false_iff_ne.2 (by omega)
  have x1 : ((dgi l 0 : Int) == 43) = false := beq_eq_false_iff_ne.2 (by omega)
  have HZ : Hid (Slot w bz) := hz
  have HD : Hid (∀ x ∈ l, 48 ≤ x.toNat ∧ x.toNat ≤ 57) := hd
  have hN1 : 1 ≤ N := by omega
  have hN2 : N ≤ 20000 := by omega
  have HN : Hid (N = l.length) := hN
  rw [← hs]
  clear hz hd h1 h2 hN hs
  have y1 : ((N : Int) == 0) = false := beq_eq_false_iff_ne.2 (by omega)
  go_enter Tryz.func76, Tryz.ntmps76
  go_wp2_with fail
  go_loopw [9, 10] (fun rv iv wx => ∃ i : Nat, i ≤ N ∧ iv = .int .i64 (i : Int) ∧ Hid (NS wx rv (rd 0 (l.take i)) ∧ Below w.heap.size w wx)) (fun _ iv _ => N - (intOf iv).toNat)
  case atStart => exact ⟨0, by omega, by go_num, by simpa [rd] using NS.nil w, Below.refl _ _⟩
  case round =>
    obtain ⟨i, hi, hiv, HR⟩ := hrel
    subst hiv
    obtain ⟨ra, rl, rc, hrv, _⟩ := HR.out.1.shape
    subst hrv
    by_cases hin : i = N
    · subst hin
      have HE : Hid (NS wr (.slice ra rl rc) (rd 0 l)) := by have := HR.out.1; rwa [HN.out, List.take_length] at this
      have HK : Hid (Below w.heap.size w wr) := HR.out.2
      clear HR
      go_wp2_with fail
      refine (give_any bz false _ (rd 0 l) _ (HZ.out.below HK.out (Nat.le_refl _)) HE.out).mono ?_
      rintro e w2 ⟨rfl, h2, u2⟩
      have HO : Hid (BigAt w2 bz (rd 0 l : Int) ∧ Upd bz w w2) := ⟨h2, Upd.then_below HK.out u2⟩
      clear h2 u2
      go_wp2
      exact bodyPost_ret (v := .tuple #[.pointer (some ⟨bz, 0, none⟩), .bool true]) (by simp [results, Tryz.results76, go_sem]) rfl ⟨rfl, HO.out.1, HO.out.2⟩
    · have hiN : i < N := by omega
      have hdb := dgi_bd HD.out i (by have := HN.out; omega)
      have HRD : Hid (rd 0 (l.take (i + 1)) = rd 0 (l.take i) * 10 + (dgi l i - 48)) := rd_dgi l i (by have := HN.out; omega)
      have HB : Hid (rd 0 (l.take i) < pw i) := rd_pw l i HD.out (by have := HN.out; omega)
      obtain ⟨d, hd⟩ : ∃ d, d = dgi l i - 48 := ⟨_, rfl⟩
      have hxi : ∀ (h : i < s.size), ((s[i]'h).toNat : Int) = ((d + 48 : Nat) : Int) := fun h => by rw [hx i h]; congr 1; omega
      rw [← hd] at HRD
      have hd9 : d ≤ 9 := by omega
      have HRB : Hid (NS wr (.slice ra rl rc) (rd 0 (l.take i)) ∧ Below w.heap.size w wr) := HR.out
      clear hx hd hdb h0 x0 x1 HR
      have c1 : (48 : Int) ≤ ((d + 48 : Nat) : Int) := by omega
      have c2 : ((d + 48 : Nat) : Int) ≤ 57 := by omega
      have c3 : IntKind.u8.wrap (((d + 48 : Nat) : Int) - 48) = (d : Int) := by rw [IntKind.wrap_u8]; omega
      have c4 : ¬ (10 : Int) ≤ (d : Int) := by omega
      have c5 : IntKind.u64.wrap (d : Int) = (d : Int) := by rw [IntKind.wrap_u64]; omega
      generalize hD48 : d + 48 = D48 at *
      go_wp2_with fail
      refine (words_any 10 (by omega) wr).mono ?_
      rintro e w2 ⟨s2, rfl, n2, k2⟩
      obtain ⟨a2, l2, p2, rfl, _⟩ := n2.shape
      have HN2 : Hid (NS w2 (.slice a2 l2 p2) 10) := n2
      have HR2 : Hid (NS w2 (.slice ra rl rc) (rd 0 (l.take i))) := HRB.out.1.below k2 (Nat.le_refl _)
      have HK2 : Hid (Below w.heap.size w w2) := HRB.out.2.trans (k2.mono HRB.out.2.size)
      clear n2 k2 HRB
      go_wp2_with fail
      refine (mul_any _ _ _ _ i 1 w2 HR2.out HN2.out HB.out (by decide) (by omega) (by omega)).mono ?_
      rintro e w3 ⟨s3, rfl, n3, k3⟩
      obtain ⟨a3, l3, p3, rfl, _⟩ := n3.shape
      have HR3 : Hid (NS w3 (.slice a3 l3 p3) (rd 0 (l.take i) * 10)) := n3
      have HK3 : Hid (Below w.heap.size w w3) := HK2.out.trans (k3.mono HK2.out.size)
      have HB3 : Hid (rd 0 (l.take i) * 10 < pw (i + 1)) := by
        have := HB.out
        rw [show pw (i + 1) = 4294967296 * pw i from rfl]
        show _ < _
        omega
      clear n3 k3 HR2 HN2 HK2 HB
      go_wp2_with fail
      refine (words_any d (by omega) w3).mono ?_
      rintro e w4 ⟨s4, rfl, n4, k4⟩
      obtain ⟨a4, l4, p4, rfl, _⟩ := n4.shape
      have HN4 : Hid (NS w4 (.slice a4 l4 p4) d) := n4
      have HR4 : Hid (NS w4 (.slice a3 l3 p3) (rd 0 (l.take i) * 10)) := HR3.out.below k4 (Nat.le_refl _)
      have HK4 : Hid (Below w.heap.size w w4) := HK3.out.trans (k4.mono HK3.out.size)
      clear n4 k4 HR3 HK3
      go_wp2_with fail
      refine (add_any _ _ _ _ (i + 1) 1 w4 HR4.out HN4.out HB3.out (by rw [show pw 1 = 4294967296 from rfl]; omega) (by omega) (by omega)).mono ?_
      rintro e w5 ⟨s5, rfl, n5, k5⟩
      obtain ⟨a5, l5, p5, rfl, _⟩ := n5.shape
      have HR5 : Hid (NS w5 (.slice a5 l5 p5) (rd 0 (l.take (i + 1)))) := by rw [HRD.out]; exact n5
      have HK5 : Hid (Below w.heap.size w w5) := HK4.out.trans (k5.mono HK4.out.size)
      clear n5 k5 HR4 HN4 HK4
      go_wp2
      go_roundw
      case rel => exact ⟨i + 1, by omega, by go_num, HR5.out, HK5.out⟩
      case measure => simp [intOf]; omega

end Go.Proofs.YtfbgblidlabipaaGreatDoor
end

section
/- The reference's Digits of a decimal text. -/
set_option linter.unusedSimpArgs false
set_option linter.unusedVariables false
set_option maxRecDepth 100000
namespace Go.Proofs.YtfbgblidlabipaaGreatDoor
open Go.RowKit LgM

theorem loop_ne (s : ByteArray) (k i : Nat) (r : List UInt8) (hk : s.size - i = k) (h : r ≠ []) : ByteArray.toList.loop s i r ≠ [] := by
  induction k generalizing i r with
  | zero => unfold ByteArray.toList.loop; rw [if_neg (by omega)]; simpa using h
  | succ k ih => unfold ByteArray.toList.loop; rw [if_pos (by omega)]; exact ih (i + 1) _ (by omega) (by simp)
theorem str_ne (s : ByteArray) (h : 0 < s.size) : ¬ s.toList = [] := by
  unfold ByteArray.toList ByteArray.toList.loop
  rw [if_pos h]
  exact loop_ne s _ _ _ rfl (by simp)

set_option maxHeartbeats 4000000 in
theorem Digits_dec (l : List UInt8) (n : Nat) (w : World) (hd : ∀ c ∈ l, 48 ≤ c.toNat ∧ c.toNat ≤ 57) (hh : 49 ≤ dgi l 0) (h1 : 1 ≤ l.length) (h2 : l.length ≤ 20000) (hn : rd 0 l = n) :
    Calls Tryz.prog 17 #[.string ⟨l.toArray⟩] w fun e w' => ∃ b, e = .returned (.tuple #[.pointer (some ⟨b, 0, none⟩), .bool true]) ∧ w.heap.size ≤ b ∧ BigAt w' b (n : Int) ∧ Below w.heap.size w w' := by
  obtain ⟨s, hs⟩ : ∃ s : ByteArray, s = ⟨l.toArray⟩ := ⟨_, rfl⟩
  obtain ⟨N, hN⟩ : ∃ N, N = l.length := ⟨_, rfl⟩
  have hsz : s.size = N := by rw [hs, hN]; simp [ByteArray.size]
  have hx : ∀ (i : Nat) (h : i < s.size), ((s[i]'h).toNat : Int) = (dgi l i : Int) := fun i h => by
    subst hs; exact str_at l i h
  have hse : ¬ s.toList = [] := str_ne s (by omega)
  have hse2 : s.toList.isEmpty = false := by simpa using hse
  have h0 := dgi_bd hd 0 (by omega)
  have x0 : ((dgi l 0 : Int) == 48) = false := beq_eq_false_iff_ne.2 (by omega)
  have HD : Hid (∀ x ∈ l, 48 ≤ x.toNat ∧ x.toNat ≤ 57) := hd
  have HX : Hid (∀ (i : Nat) (h : i < s.size), ((s[i]'h).toNat : Int) = (dgi l i : Int)) := hx
  have hN1 : 1 ≤ N := by omega
  have hN2 : N ≤ 20000 := by omega
  have HN : Hid (N = l.length) := hN
  have HS : Hid (s = ⟨l.toArray⟩) := hs
  have Hn : Hid (rd 0 l = n) := hn
  have hx0 : ∀ (h : 0 < s.size), ((s[0]'h).toNat : Int) = (dgi l 0 : Int) := hx 0
  rw [← hs]
  clear hd h1 h2 hN hs hn hx hh h0
  have y1 : ((N : Int) == 0) = false := beq_eq_false_iff_ne.2 (by omega)
  have z2 : ¬ (20000 : Int) < (N : Int) := by omega
  have hN7 : N = 1 ∨ (1 : Int) < (N : Int) := by omega
  rcases hN7 with hN7 | hN7
  all_goals
    go_enter Tryz.func17, Tryz.ntmps17
    go_wp2_with fail
    go_loopw [4] (fun iv wx => ∃ i : Nat, i ≤ N ∧ iv = .int .i64 (i : Int) ∧ wx = w) (fun iv _ => N - (intOf iv).toNat)
    case atStart => exact ⟨0, by omega, by go_num, rfl⟩
    case round =>
      obtain ⟨i, hi, hiv, hwx⟩ := hrel
      subst hiv hwx
      by_cases hin : i = N
      · have ht : ¬ (i : Int) < (N : Int) := by omega
        clear hse hse2 x0 hx0 y1 z2
        go_wp2_with fail
        have K0 := (Below.refl wr.heap.size wr).alloc (Nat.le_refl _) (.cells #[.bool false, .slice none 0 0] 45)
        have S0 := slot_new wr (.bool false) (.slice none 0 0)
        have hc := SetString_dec wr.heap.size l _ S0 HD.out (by have := HN.out; omega) (by have := HN.out; omega)
        rw [← HS.out] at hc
        refine hc.mono ?_
        rintro e w2 ⟨rfl, h2, u2⟩
        have HO : Hid (BigAt w2 wr.heap.size (n : Int) ∧ Below wr.heap.size wr w2) := ⟨by rw [← Hn.out]; exact h2, K0.trans (u2.below (by simp) (Nat.le_refl _))⟩
        clear h2 u2 K0 S0 hc
        go_wp2
        exact bodyPost_ret (v := .tuple #[.pointer (some ⟨wr.heap.size, 0, none⟩), .bool true]) (by simp [results, Tryz.results17, go_sem]) rfl ⟨_, rfl, Nat.le_refl _, HO.out.1, HO.out.2⟩
      · have hiN : i < N := by omega
        have hdb := dgi_bd HD.out i (by have := HN.out; omega)
        have hxi : ∀ (h : i < s.size), ((s[i]'h).toNat : Int) = (dgi l i : Int) := HX.out i
        have q1 : ¬ (dgi l i : Int) < 48 := by omega
        have q2 : ¬ (57 : Int) < (dgi l i : Int) := by omega
        generalize dgi l i = D at *
        clear hx0 x0 hdb hse hse2 y1 z2
        go_wp2
        go_roundw
        case rel => exact ⟨i + 1, by omega, by go_num, trivial⟩
        case measure => simp [intOf]; omega

end Go.Proofs.YtfbgblidlabipaaGreatDoor
end
