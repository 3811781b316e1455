import Derived.Test.YtnkjadpmigpneaaGreatDoorJnY
import Derived.Test.YtnkjadpmigpneaaGreatDoorJnX
import Derived.Test.YtnkjadpmigpneaaGreatDoorJnA
import Derived.Test.YtnkjadpmigpneaaGreatDoorJnV
import Derived.Test.YtnkjadpmigpneaaGreatDoorJnAg
import Derived.Test.YtnkjadpmigpneaaGreatDoorJnAf
import Derived.Test.YtnkjadpmigpneaaGreatDoorJnD
import Derived.Test.YtnkjadpmigpneaaGreatDoorJnAe
import Derived.Test.YtnkjadpmigpneaaGreatDoorJnAd
import Derived.Test.YtnkjadpmigpneaaGreatDoorJnAh
section
/- The long numbers' SetString of decimal digits; the reference's Digits. -/
set_option linter.unusedSimpArgs false
set_option linter.unusedVariables false
set_option maxRecDepth 100000
namespace Go.Proofs.YtnkjadpmigpneaaGreatDoor
open Go.RowKit LgM

theorem rd_snoc (l : List UInt8) (c : UInt8) : rd 0 (l ++ [c]) = rd 0 l * 10 + (c.toNat - 48) := by simp [rd]
theorem rd_take (l : List UInt8) (i : Nat) (h : i < l.length) : rd 0 (l.take (i + 1)) = rd 0 (l.take i) * 10 + (l[i].toNat - 48) := by
  rw [List.take_succ_eq_append_getElem h, rd_snoc]

theorem rd_le (l : List UInt8) (hd : ∀ c ∈ l, 48 ≤ c.toNat ∧ c.toNat ≤ 57) : rd 0 l < 10 ^ l.length := by
  obtain ⟨n, hn⟩ : ∃ n, n = l.length := ⟨_, rfl⟩
  induction n generalizing l with
  | zero => have : l = [] := List.eq_nil_of_length_eq_zero hn.symm; subst this; simp [rd]
  | succ n ih =>
    have hne : l ≠ [] := by intro h; subst h; simp at hn
    have hs := (List.dropLast_concat_getLast hne).symm
    have h1 := ih l.dropLast (fun c hc => hd c (List.dropLast_subset l hc)) (by simp; omega)
    have h2 := hd _ (List.getLast_mem hne)
    rw [List.length_dropLast, ← hn, Nat.add_sub_cancel] at h1
    rw [← hn, hs, rd_snoc, Nat.pow_succ]
    omega
theorem ten_pw (i : Nat) : 10 ^ i ≤ pw i := by
  induction i with
  | zero => decide
  | succ i ih => rw [Nat.pow_succ, Nat.mul_comm, show pw (i + 1) = 4294967296 * pw i from rfl]; exact Nat.mul_le_mul (by omega) ih
theorem rd_pw (l : List UInt8) (i : Nat) (hd : ∀ c ∈ l, 48 ≤ c.toNat ∧ c.toNat ≤ 57) (h : i ≤ l.length) : rd 0 (l.take i) < pw i := by
  have := rd_le (l.take i) (fun c hc => hd c (List.mem_of_mem_take hc))
  rw [List.length_take, Nat.min_eq_left h] at this
  exact Nat.lt_of_lt_of_le this (ten_pw i)

def dgi (l : List UInt8) (i : Nat) : Nat := (l.getD i 0).toNat
theorem str_at (l : List UInt8) (i : Nat) (h : i < (⟨l.toArray⟩ : ByteArray).size) : (((⟨l.toArray⟩ : ByteArray)[i]'h).toNat : Int) = (dgi l i : Int) := by
  have h2 : i < l.length := by simpa [ByteArray.size] using h
  have e : (⟨l.toArray⟩ : ByteArray)[i]'h = l[i] := rfl
  rw [e]; simp [dgi, List.getD_eq_getElem?_getD, h2]
theorem dgi_bd {l : List UInt8} (hd : ∀ c ∈ l, 48 ≤ c.toNat ∧ c.toNat ≤ 57) (i : Nat) (h : i < l.length) : 48 ≤ dgi l i ∧ dgi l i ≤ 57 := by
  have := hd l[i] (List.getElem_mem h)
  simpa [dgi, List.getD_eq_getElem?_getD, h] using this
theorem rd_dgi (l : List UInt8) (i : Nat) (h : i < l.length) : rd 0 (l.take (i + 1)) = rd 0 (l.take i) * 10 + (dgi l i - 48) := by
  rw [rd_take l i h]; simp [dgi, List.getD_eq_getElem?_getD, h]

set_option maxHeartbeats 4000000 in
theorem SetString_dec (bz : Nat) (l : List UInt8) (w : World) (hz : Slot w bz) (hd : ∀ c ∈ l, 48 ≤ c.toNat ∧ c.toNat ≤ 57) (h1 : 1 ≤ l.length) (h2 : l.length ≤ 20000) :
    Calls Tryz.prog 54 #[.pointer (some ⟨bz, 0, none⟩), .string ⟨l.toArray⟩, .int .i64 10] w fun e w' => e = .returned (.tuple #[.pointer (some ⟨bz, 0, none⟩), .bool true]) ∧ BigAt w' bz (rd 0 l : Int) ∧ Upd bz w w' := by
  obtain ⟨s, hs⟩ : ∃ s : ByteArray, s = ⟨l.toArray⟩ := ⟨_, rfl⟩
  obtain ⟨N, hN⟩ : ∃ N, N = l.length := ⟨_, rfl⟩
  have hsz : s.size = N := by rw [hs, hN]; simp [ByteArray.size]
  have hx : ∀ (i : Nat) (h : i < s.size), ((s[i]'h).toNat : Int) = (dgi l i : Int) := fun i h => by
    subst hs; exact str_at l i h
  have h0 := dgi_bd hd 0 (by omega)
  have x0 : ((dgi l 0 : Int) == 45) = false := beq_eq_false_iff_ne.2 (by omega)
  have x1 : ((dgi l 0 : Int) == 43) = false := beq_eq_false_iff_ne.2 (by omega)
  have HZ : Hid (Slot w bz) := hz
  have HD : Hid (∀ x ∈ l, 48 ≤ x.toNat ∧ x.toNat ≤ 57) := hd
  have hN1 : 1 ≤ N := by omega
  have hN2 : N ≤ 20000 := by omega
  have HN : Hid (N = l.length) := hN
  rw [← hs]
  clear hz hd h1 h2 hN hs
  have y1 : ((N : Int) == 0) = false := beq_eq_false_iff_ne.2 (by omega)
  go_enter Tryz.func54, Tryz.ntmps54
  go_wp2_with fail
  go_loopw [9, 10] (fun rv iv wx => ∃ i : Nat, i ≤ N ∧ iv = .int .i64 (i : Int) ∧ Hid (NS wx rv (rd 0 (l.take i)) ∧ Below w.heap.size w wx)) (fun _ iv _ => N - (intOf iv).toNat)
  case atStart => exact ⟨0, by omega, by go_num, by simpa [rd] using NS.nil w, Below.refl _ _⟩
  case round =>
    obtain ⟨i, hi, hiv, HR⟩ := hrel
    subst hiv
    obtain ⟨ra, rl, rc, hrv, _⟩ := HR.out.1.shape
    subst hrv
    by_cases hin : i = N
    · subst hin
      have HE : Hid (NS wr (.slice ra rl rc) (rd 0 l)) := by have := HR.out.1; rwa [HN.out, List.take_length] at this
      have HK : Hid (Below w.heap.size w wr) := HR.out.2
      clear HR
      go_wp2_with fail
      refine (give_any bz false _ (rd 0 l) _ (HZ.out.below HK.out (Nat.le_refl _)) HE.out).mono ?_
      rintro e w2 ⟨rfl, h2, u2⟩
      have HO : Hid (BigAt w2 bz (rd 0 l : Int) ∧ Upd bz w w2) := ⟨h2, Upd.then_below HK.out u2⟩
      clear h2 u2
      go_wp2
      exact bodyPost_ret (v := .tuple #[.pointer (some ⟨bz, 0, none⟩), .bool true]) (by simp [results, Tryz.results54, go_sem]) rfl ⟨rfl, HO.out.1, HO.out.2⟩
    · have hiN : i < N := by omega
      have hdb := dgi_bd HD.out i (by have := HN.out; omega)
      have HRD : Hid (rd 0 (l.take (i + 1)) = rd 0 (l.take i) * 10 + (dgi l i - 48)) := rd_dgi l i (by have := HN.out; omega)
      have HB : Hid (rd 0 (l.take i) < pw i) := rd_pw l i HD.out (by have := HN.out; omega)
      obtain ⟨d, hd⟩ : ∃ d, d = dgi l i - 48 := ⟨_, rfl⟩
      have hxi : ∀ (h : i < s.size), ((s[i]'h).toNat : Int) = ((d + 48 : Nat) : Int) := fun h => by rw [hx i h]; congr 1; omega
      rw [← hd] at HRD
      have hd9 : d ≤ 9 := by omega
      have HRB : Hid (NS wr (.slice ra rl rc) (rd 0 (l.take i)) ∧ Below w.heap.size w wr) := HR.out
      clear hx hd hdb h0 x0 x1 HR
      have c1 : (48 : Int) ≤ ((d + 48 : Nat) : Int) := by omega
      have c2 : ((d + 48 : Nat) : Int) ≤ 57 := by omega
      have c3 : IntKind.u8.wrap (((d + 48 : Nat) : Int) - 48) = (d : Int) := by rw [IntKind.wrap_u8]; omega
      have c4 : ¬ (10 : Int) ≤ (d : Int) := by omega
      have c5 : IntKind.u64.wrap (d : Int) = (d : Int) := by rw [IntKind.wrap_u64]; omega
      generalize hD48 : d + 48 = D48 at *
      go_wp2_with fail
      refine (words_any 10 (by omega) wr).mono ?_
      rintro e w2 ⟨s2, rfl, n2, k2⟩
      obtain ⟨a2, l2, p2, rfl, _⟩ := n2.shape
      have HN2 : Hid (NS w2 (.slice a2 l2 p2) 10) := n2
      have HR2 : Hid (NS w2 (.slice ra rl rc) (rd 0 (l.take i))) := HRB.out.1.below k2 (Nat.le_refl _)
      have HK2 : Hid (Below w.heap.size w w2) := HRB.out.2.trans (k2.mono HRB.out.2.size)
      clear n2 k2 HRB
      go_wp2_with fail
      refine (mul_any _ _ _ _ i 1 w2 HR2.out HN2.out HB.out (by decide) (by omega) (by omega)).mono ?_
      rintro e w3 ⟨s3, rfl, n3, k3⟩
      obtain ⟨a3, l3, p3, rfl, _⟩ := n3.shape
      have HR3 : Hid (NS w3 (.slice a3 l3 p3) (rd 0 (l.take i) * 10)) := n3
      have HK3 : Hid (Below w.heap.size w w3) := HK2.out.trans (k3.mono HK2.out.size)
      have HB3 : Hid (rd 0 (l.take i) * 10 < pw (i + 1)) := by
        have := HB.out
        rw [show pw (i + 1) = 4294967296 * pw i from rfl]
        show _ < _
        omega
      clear n3 k3 HR2 HN2 HK2 HB
      go_wp2_with fail
      refine (words_any d (by omega) w3).mono ?_
      rintro e w4 ⟨s4, rfl, n4, k4⟩
      obtain ⟨a4, l4, p4, rfl, _⟩ := n4.shape
      have HN4 : Hid (NS w4 (.slice a4 l4 p4) d) := n4
      have HR4 : Hid (NS w4 (.slice a3 l3 p3) (rd 0 (l.take i) * 10)) := HR3.out.below k4 (Nat.le_refl _)
      have HK4 : Hid (Below w.heap.size w w4) := HK3.out.trans (k4.mono HK3.out.size)
      clear n4 k4 HR3 HK3
      go_wp2_with fail
      refine (add_any _ _ _ _ (i + 1) 1 w4 HR4.out HN4.out HB3.out (by rw [show pw 1 = 4294967296 from rfl]; omega) (by omega) (by omega)).mono ?_
      rintro e w5 ⟨s5, rfl, n5, k5⟩
      obtain ⟨a5, l5, p5, rfl, _⟩ := n5.shape
      have HR5 : Hid (NS w5 (.slice a5 l5 p5) (rd 0 (l.take (i + 1)))) := by rw [HRD.out]; exact n5
      have HK5 : Hid (Below w.heap.size w w5) := HK4.out.trans (k5.mono HK4.out.size)
      clear n5 k5 HR4 HN4 HK4
      go_wp2
      go_roundw
      case rel => exact ⟨i + 1, by omega, by go_num, HR5.out, HK5.out⟩
      case measure => simp [intOf]; omega

end Go.Proofs.YtnkjadpmigpneaaGreatDoor
end

section
/- The reference's Digits of a decimal text. -/
set_option linter.unusedSimpArgs false
set_option linter.unusedVariables false
set_option maxRecDepth 100000
namespace Go.Proofs.YtnkjadpmigpneaaGreatDoor
open Go.RowKit LgM

theorem loop_ne (s : ByteArray) (k i : Nat) (r : List UInt8) (hk : s.size - i = k) (h : r ≠ []) : ByteArray.toList.loop s i r ≠ [] := by
  induction k generalizing i r with
  | zero => unfold ByteArray.toList.loop; rw [if_neg (by omega)]; simpa using h
  | succ k ih => unfold ByteArray.toList.loop; rw [if_pos (by omega)]; exact ih (i + 1) _ (by omega) (by simp)
theorem str_ne (s : ByteArray) (h : 0 < s.size) : ¬ s.toList = [] := by
  unfold ByteArray.toList ByteArray.toList.loop
  rw [if_pos h]
  exact loop_ne s _ _ _ rfl (by simp)

set_option maxHeartbeats 4000000 in
theorem Digits_dec (l : List UInt8) (n : Nat) (w : World) (hd : ∀ c ∈ l, 48 ≤ c.toNat ∧ c.toNat ≤ 57) (hh : 49 ≤ dgi l 0) (h1 : 1 ≤ l.length) (h2 : l.length ≤ 20000) (hn : rd 0 l = n) :
    Calls Tryz.prog 27 #[.string ⟨l.toArray⟩] w fun e w' => ∃ b, e = .returned (.tuple #[.pointer (some ⟨b, 0, none⟩), .bool true]) ∧ w.heap.size ≤ b ∧ BigAt w' b (n : Int) ∧ Below w.heap.size w w' := by
  obtain ⟨s, hs⟩ : ∃ s : ByteArray, s = ⟨l.toArray⟩ := ⟨_, rfl⟩
  obtain ⟨N, hN⟩ : ∃ N, N = l.length := ⟨_, rfl⟩
  have hsz : s.size = N := by rw [hs, hN]; simp [ByteArray.size]
  have hx : ∀ (i : Nat) (h : i < s.size), ((s[i]'h).toNat : Int) = (dgi l i : Int) := fun i h => by
    subst hs; exact str_at l i h
  have hse : ¬ s.toList = [] := str_ne s (by omega)
  have hse2 : s.toList.isEmpty = false := by simpa using hse
  have h0 := dgi_bd hd 0 (by omega)
  have x0 : ((dgi l 0 : Int) == 48) = false := beq_eq_false_iff_ne.2 (by omega)
  have HD : Hid (∀ x ∈ l, 48 ≤ x.toNat ∧ x.toNat ≤ 57) := hd
  have HX : Hid (∀ (i : Nat) (h : i < s.size), ((s[i]'h).toNat : Int) = (dgi l i : Int)) := hx
  have hN1 : 1 ≤ N := by omega
  have hN2 : N ≤ 20000 := by omega
  have HN : Hid (N = l.length) := hN
  have HS : Hid (s = ⟨l.toArray⟩) := hs
  have Hn : Hid (rd 0 l = n) := hn
  have hx0 : ∀ (h : 0 < s.size), ((s[0]'h).toNat : Int) = (dgi l 0 : Int) := hx 0
  rw [← hs]
  clear hd h1 h2 hN hs hn hx hh h0
  have y1 : ((N : Int) == 0) = false := beq_eq_false_iff_ne.2 (by omega)
  have z2 : ¬ (20000 : Int) < (N : Int) := by omega
  have hN7 : N = 1 ∨ (1 : Int) < (N : Int) := by omega
  rcases hN7 with hN7 | hN7
  all_goals
    go_enter Tryz.func27, Tryz.ntmps27
    go_wp2_with fail
    go_loopw [4] (fun iv wx => ∃ i : Nat, i ≤ N ∧ iv = .int .i64 (i : Int) ∧ wx = w) (fun iv _ => N - (intOf iv).toNat)
    case atStart => exact ⟨0, by omega, by go_num, rfl⟩
    case round =>
      obtain ⟨i, hi, hiv, hwx⟩ := hrel
      subst hiv hwx
      by_cases hin : i = N
      · have ht : ¬ (i : Int) < (N : Int) := by omega
        clear hse hse2 x0 hx0 y1 z2
        go_wp2_with fail
        have K0 := (Below.refl wr.heap.size wr).alloc (Nat.le_refl _) (.cells #[.bool false, .slice none 0 0] 37)
        have S0 := slot_new wr (.bool false) (.slice none 0 0)
        have hc := SetString_dec wr.heap.size l _ S0 HD.out (by have := HN.out; omega) (by have := HN.out; omega)
        rw [← HS.out] at hc
        refine hc.mono ?_
        rintro e w2 ⟨rfl, h2, u2⟩
        have HO : Hid (BigAt w2 wr.heap.size (n : Int) ∧ Below wr.heap.size wr w2) := ⟨by rw [← Hn.out]; exact h2, K0.trans (u2.below (by simp) (Nat.le_refl _))⟩
        clear h2 u2 K0 S0 hc
        go_wp2
        exact bodyPost_ret (v := .tuple #[.pointer (some ⟨wr.heap.size, 0, none⟩), .bool true]) (by simp [results, Tryz.results27, go_sem]) rfl ⟨_, rfl, Nat.le_refl _, HO.out.1, HO.out.2⟩
      · have hiN : i < N := by omega
        have hdb := dgi_bd HD.out i (by have := HN.out; omega)
        have hxi : ∀ (h : i < s.size), ((s[i]'h).toNat : Int) = (dgi l i : Int) := HX.out i
        have q1 : ¬ (dgi l i : Int) < 48 := by omega
        have q2 : ¬ (57 : Int) < (dgi l i : Int) := by omega
        generalize dgi l i = D at *
        clear hx0 x0 hdb hse hse2 y1 z2
        go_wp2
        go_roundw
        case rel => exact ⟨i + 1, by omega, by go_num, trivial⟩
        case measure => simp [intOf]; omega

end Go.Proofs.YtnkjadpmigpneaaGreatDoor
end

section
/- The reference's Digits, of every number's decimal text (0, too). -/
set_option linter.unusedSimpArgs false
set_option linter.unusedVariables false
set_option maxRecDepth 100000
namespace Go.Proofs.YtnkjadpmigpneaaGreatDoor
open Go.RowKit LgM

set_option maxHeartbeats 4000000 in
theorem Digits_any (l : List UInt8) (n : Nat) (w : World) (hd : ∀ c ∈ l, 48 ≤ c.toNat ∧ c.toNat ≤ 57) (hh : 1 < l.length → 49 ≤ dgi l 0) (h1 : 1 ≤ l.length) (h2 : l.length ≤ 20000) (hn : rd 0 l = n) :
    Calls Tryz.prog 27 #[.string ⟨l.toArray⟩] w fun e w' => ∃ b, e = .returned (.tuple #[.pointer (some ⟨b, 0, none⟩), .bool true]) ∧ w.heap.size ≤ b ∧ BigAt w' b (n : Int) ∧ Below w.heap.size w w' := by
  obtain ⟨s, hs⟩ : ∃ s : ByteArray, s = ⟨l.toArray⟩ := ⟨_, rfl⟩
  obtain ⟨N, hN⟩ : ∃ N, N = l.length := ⟨_, rfl⟩
  have hsz : s.size = N := by rw [hs, hN]; simp [ByteArray.size]
  have hx : ∀ (i : Nat) (h : i < s.size), ((s[i]'h).toNat : Int) = (dgi l i : Int) := fun i h => by
    subst hs; exact str_at l i h
  have hse : ¬ s.toList = [] := str_ne s (by omega)
  have hse2 : s.toList.isEmpty = false := by simpa using hse
  have h0 := dgi_bd hd 0 (by omega)
  have HH : Hid (1 < l.length → 49 ≤ dgi l 0) := hh
  have HD : Hid (∀ x ∈ l, 48 ≤ x.toNat ∧ x.toNat ≤ 57) := hd
  have HX : Hid (∀ (i : Nat) (h : i < s.size), ((s[i]'h).toNat : Int) = (dgi l i : Int)) := hx
  have hN1 : 1 ≤ N := by omega
  have hN2 : N ≤ 20000 := by omega
  have HN : Hid (N = l.length) := hN
  have HS : Hid (s = ⟨l.toArray⟩) := hs
  have Hn : Hid (rd 0 l = n) := hn
  have hx0 : ∀ (h : 0 < s.size), ((s[0]'h).toNat : Int) = (dgi l 0 : Int) := hx 0
  rw [← hs]
  clear hd h1 h2 hN hs hn hx hh h0
  have y1 : ((N : Int) == 0) = false := beq_eq_false_iff_ne.2 (by omega)
  have z2 : ¬ (20000 : Int) < (N : Int) := by omega
  have hN7 : (N = 1 ∧ True) ∨ ((1 : Int) < (N : Int) ∧ ((dgi l 0 : Int) == 48) = false) := by
    by_cases h : N = 1
    · exact .inl ⟨h, trivial⟩
    · have h5 := HH.out (by have := HN.out; omega)
      exact .inr ⟨by omega, beq_eq_false_iff_ne.2 (by omega)⟩
  clear HH
  rcases hN7 with ⟨hN7, x0⟩ | ⟨hN7, x0⟩
  all_goals
    go_enter Tryz.func27, Tryz.ntmps27
    go_wp2_with fail
    go_loopw [4] (fun iv wx => ∃ i : Nat, i ≤ N ∧ iv = .int .i64 (i : Int) ∧ wx = w) (fun iv _ => N - (intOf iv).toNat)
    case atStart => exact ⟨0, by omega, by go_num, rfl⟩
    case round =>
      obtain ⟨i, hi, hiv, hwx⟩ := hrel
      subst hiv hwx
      by_cases hin : i = N
      · have ht : ¬ (i : Int) < (N : Int) := by omega
        clear hse hse2 x0 hx0 y1 z2
        go_wp2_with fail
        have K0 := (Below.refl wr.heap.size wr).alloc (Nat.le_refl _) (.cells #[.bool false, .slice none 0 0] 37)
        have S0 := slot_new wr (.bool false) (.slice none 0 0)
        have hc := SetString_dec wr.heap.size l _ S0 HD.out (by have := HN.out; omega) (by have := HN.out; omega)
        rw [← HS.out] at hc
        refine hc.mono ?_
        rintro e w2 ⟨rfl, h2, u2⟩
        have HO : Hid (BigAt w2 wr.heap.size (n : Int) ∧ Below wr.heap.size wr w2) := ⟨by rw [← Hn.out]; exact h2, K0.trans (u2.below (by simp) (Nat.le_refl _))⟩
        clear h2 u2 K0 S0 hc
        go_wp2
        exact bodyPost_ret (v := .tuple #[.pointer (some ⟨wr.heap.size, 0, none⟩), .bool true]) (by simp [results, Tryz.results27, go_sem]) rfl ⟨_, rfl, Nat.le_refl _, HO.out.1, HO.out.2⟩
      · have hiN : i < N := by omega
        have hdb := dgi_bd HD.out i (by have := HN.out; omega)
        have hxi : ∀ (h : i < s.size), ((s[i]'h).toNat : Int) = (dgi l i : Int) := HX.out i
        have q1 : ¬ (dgi l i : Int) < 48 := by omega
        have q2 : ¬ (57 : Int) < (dgi l i : Int) := by omega
        generalize dgi l i = D at *
        clear hx0 x0 hdb hse hse2 y1 z2
        go_wp2
        go_roundw
        case rel => exact ⟨i + 1, by omega, by go_num, trivial⟩
        case measure => simp [intOf]; omega

theorem Digits_nat (x m : Nat) (w : World) (h : x < pw m) (hm : 1 ≤ m) (hm' : m ≤ 2000) :
    Calls Tryz.prog 27 #[.string ⟨(Lib.decDigits x).toArray⟩] w fun e w' => ∃ b, e = .returned (.tuple #[.pointer (some ⟨b, 0, none⟩), .bool true]) ∧ w.heap.size ≤ b ∧ BigAt w' b (x : Int) ∧ Below w.heap.size w w' := by
  have h2 := dec_pw h hm
  refine Digits_any _ x w (dec_digit x) (fun h1 => ?_) (dec_pos x) (by omega) (rd_dec x)
  have h0 : 0 < x := by
    rcases Nat.eq_zero_or_pos x with e | e
    · subst e; rw [dec_lt (by decide)] at h1; simp at h1
    · exact e
  obtain ⟨c, r, e, hc⟩ := dec_head x h0
  unfold dgi
  rw [e]
  exact hc

end Go.Proofs.YtnkjadpmigpneaaGreatDoor
end

section
/- The law BernNicomachus, out of what is asked of the code: Sum, and the example bernBegun. -/
set_option linter.unusedSimpArgs false
set_option linter.unusedVariables false
set_option maxRecDepth 100000
namespace Go.Proofs.YtnkjadpmigpneaaGreatDoor
open Go.RowKit

/-- NICOMACHUS. -/
theorem pk_one : ∀ n : Nat, 2 * BN.pk 1 n = n * (n + 1)
  | 0 => rfl
  | n + 1 => by
    have h := pk_one n
    show 2 * (BN.pk 1 n + (n + 1) ^ 1) = (n + 1) * (n + 1 + 1)
    rw [Nat.mul_add, h]
    grind
theorem nicomachus : ∀ n : Nat, BN.pk 1 n * BN.pk 1 n = BN.pk 3 n
  | 0 => rfl
  | n + 1 => by
    have h := nicomachus n
    have h1 := pk_one n
    show (BN.pk 1 n + (n + 1) ^ 1) * (BN.pk 1 n + (n + 1) ^ 1) = BN.pk 3 n + (n + 1) ^ 3
    rw [← h]
    generalize BN.pk 1 n = a at *
    grind
theorem pk_big {k n : Nat} (hk : k ≤ 60) (hn : n ≤ 1000000000000000000) : BN.pk k n < pw 128 := by
  have h1 := BN.pk_le k n
  have h2 : n * n ^ k ≤ 2 ^ 60 * (2 ^ 60) ^ 60 := Nat.mul_le_mul (by omega) (Nat.le_trans (Nat.pow_le_pow_left (show n ≤ 2 ^ 60 by omega) k) (Nat.pow_le_pow_right (by decide) hk))
  have h3 : 2 ^ 60 * (2 ^ 60) ^ 60 < pw 128 := by decide +kernel
  omega
/-- The two faults that the law's variables hold: none. -/
structure N2 (w W : World) (b6 b8 : Nat) : Prop where
  f : Sv b6 0 0 W
  v : Sv b8 0 0 W
  ne : b6 ≠ b8
  l6 : w.heap.size ≤ b6
  l8 : w.heap.size ≤ b8
  k : Below w.heap.size w W
theorem N2.below {w W W' : World} {b6 b8 : Nat} (h : N2 w W b6 b8) (l : Below W.heap.size W W') : N2 w W' b6 b8 :=
  ⟨h.f.below l, h.v.below l, h.ne, h.l6, h.l8, h.k.trans (l.mono h.k.size)⟩
theorem N2.set6 {w W : World} {b6 b8 : Nat} (h : N2 w W b6 b8) : N2 w ((W.setCell ⟨b6, 0, none⟩ (.int .i64 0)).setCell ⟨b6, 1, none⟩ (.int .i64 0)) b6 b8 :=
  ⟨h.f.set 0 0, h.v.other _ _ h.ne, h.ne, h.l6, h.l8, (h.k.setCell h.l6 _).setCell h.l6 _⟩
theorem N2.set8 {w W : World} {b6 b8 : Nat} (h : N2 w W b6 b8) : N2 w ((W.setCell ⟨b8, 0, none⟩ (.int .i64 0)).setCell ⟨b8, 1, none⟩ (.int .i64 0)) b6 b8 :=
  ⟨h.f.other _ _ (Ne.symm h.ne), h.v.set 0 0, h.ne, h.l6, h.l8, (h.k.setCell h.l8 _).setCell h.l8 _⟩

/-- What is asked of Sum. -/
def SumOk (w : World) : Prop := ∀ (k n : Nat) (W : World), Below w.heap.size w W → k ≤ 60 → n ≤ 1000000000000000000 → Calls Tryz.prog 20 #[.int .i64 (k : Int), .int .i64 (n : Int)] W fun e w' => e = .returned (.tuple #[.string ⟨(Lib.decDigits (BN.pk k n)).toArray⟩, .agg #[.int .i64 0, .int .i64 0]]) ∧ Below W.heap.size W w'
/-- A number in its text. -/
def Dn (S : ByteArray) (x : Nat) : Prop := ∀ W : World, Calls Tryz.prog 27 #[.string S] W fun e w' => ∃ b, e = .returned (.tuple #[.pointer (some ⟨b, 0, none⟩), .bool true]) ∧ W.heap.size ≤ b ∧ BigAt w' b (x : Int) ∧ Below W.heap.size W w'
theorem sum_text (k n : Nat) (hk : k ≤ 60) (hn : n ≤ 1000000000000000000) : ∃ S : ByteArray, S = ⟨(Lib.decDigits (BN.pk k n)).toArray⟩ ∧ Dn S (BN.pk k n) :=
  ⟨_, rfl, fun W => Digits_nat _ 128 W (pk_big hk hn) (by omega) (by omega)⟩

set_option maxHeartbeats 4000000 in
theorem nico_out (k n : Int) (w : World) (hn : n < 0 ∨ 1000000000000000000 ≤ n) (hBg : Calls Tryz.prog 8 #[] w fun e w' => e = .returned (.bool true) ∧ Below w.heap.size w w') :
    Calls Tryz.prog 5 #[.int .i64 k, .int .i64 n] w fun e w' => e = .returned (.bool true) ∧ Below w.heap.size w w' := by
  go_enter Tryz.func5, Tryz.ntmps5
  go_wp2_with fail
  refine hBg.mono ?_
  rintro e w1 ⟨rfl, k1⟩
  by_cases h0 : n < 0
  · have d0 : decide (n < 0) = true := decide_eq_true h0
    go_wp2
    go_ret
    exact ⟨rfl, k1⟩
  · have d0 : decide (n < 0) = false := decide_eq_false h0
    have d1 : decide (1000000000000000000 ≤ n) = true := decide_eq_true (by omega)
    go_wp2
    go_ret
    exact ⟨rfl, k1⟩

set_option maxHeartbeats 4000000 in
theorem nico_half (k : Int) (n : Nat) (w : World) (hn : n < 1000000000000000000) (hk : k < 0 ∨ 60 < k) (hBg : Calls Tryz.prog 8 #[] w fun e w' => e = .returned (.bool true) ∧ Below w.heap.size w w') (hSm : SumOk w) :
    Calls Tryz.prog 5 #[.int .i64 k, .int .i64 (n : Int)] w fun e w' => e = .returned (.bool true) ∧ Below w.heap.size w w' := by
  have HBg : Hid (Calls Tryz.prog 8 #[] w fun e w' => e = .returned (.bool true) ∧ Below w.heap.size w w') := hBg
  have HSm : Hid (SumOk w) := hSm
  clear hBg hSm
  obtain ⟨S1, hS1, hD1⟩ := sum_text 1 n (by omega) (by omega)
  obtain ⟨S3, hS3, hD3⟩ := sum_text 3 n (by omega) (by omega)
  have HT : Hid ((S1 = ⟨(Lib.decDigits (BN.pk 1 n)).toArray⟩ ∧ Dn S1 (BN.pk 1 n)) ∧ (S3 = ⟨(Lib.decDigits (BN.pk 3 n)).toArray⟩ ∧ Dn S3 (BN.pk 3 n))) := ⟨⟨hS1, hD1⟩, ⟨hS3, hD3⟩⟩
  clear hS1 hD1 hS3 hD3
  have d0 : decide ((n : Int) < 0) = false := decide_eq_false (by omega)
  have d1 : decide (1000000000000000000 ≤ (n : Int)) = false := decide_eq_false (by omega)
  go_enter Tryz.func5, Tryz.ntmps5
  go_wp2_with fail
  refine HBg.out.mono ?_
  rintro e w1 ⟨rfl, k1⟩
  have K1 : Hid (Below w.heap.size w w1) := k1
  clear k1 HBg
  go_wp2_with fail
  have hq := HSm.out 1 n w1 K1.out (by omega) (by omega)
  rw [← HT.out.1.1] at hq
  refine hq.mono ?_
  rintro e w2 ⟨rfl, k2⟩
  have K2 : Hid (Below w.heap.size w w2) := K1.out.trans (k2.mono K1.out.size)
  clear k2 K1 hq
  have z2 := K2.out.size
  have K3 : Hid (Sv w2.heap.size 0 0 (w2.alloc (.cells #[.int .i64 0, .int .i64 0] 23)) ∧ Below w.heap.size w (w2.alloc (.cells #[.int .i64 0, .int .i64 0] 23))) := ⟨Sv.new 0 0 w2, K2.out.alloc z2 _⟩
  clear K2
  go_wp2_with fail
  have hq := HSm.out 3 n _ K3.out.2 (by omega) (by omega)
  rw [← HT.out.2.1] at hq
  refine hq.mono ?_
  rintro e w3 ⟨rfl, k3⟩
  have K4 : Hid (Sv w2.heap.size 0 0 w3 ∧ Below w.heap.size w w3) := ⟨K3.out.1.below k3, K3.out.2.trans (k3.mono K3.out.2.size)⟩
  clear k3 K3 hq
  have z3 := K4.out.2.size
  have z4 := K4.out.1.lt
  have K5 : Hid (N2 w (w3.alloc (.cells #[.int .i64 0, .int .i64 0] 23)) w2.heap.size w3.heap.size) := ⟨K4.out.1.alloc _ _, Sv.new 0 0 w3, by omega, z2, z3, K4.out.2.alloc z3 _⟩
  clear K4
  obtain ⟨b6, hb6⟩ : ∃ b, b = w2.heap.size := ⟨_, rfl⟩
  obtain ⟨b8, hb8⟩ : ∃ b, b = w3.heap.size := ⟨_, rfl⟩
  go_wp2_with fail
  rw [← hb6, ← hb8]
  have K5' : Hid (N2 w (w3.alloc (.cells #[.int .i64 0, .int .i64 0] 23)) b6 b8) := by show N2 _ _ _ _; rw [hb6, hb8]; exact K5.out
  refine (HT.out.1.2 _).mono ?_
  rintro e w5 ⟨x1, rfl, hx1, i5, k5⟩
  have K6 : Hid (N2 w w5 b6 b8 ∧ BigAt w5 x1 ((BN.pk 1 n : Nat) : Int)) := ⟨K5'.out.below k5, i5⟩
  clear k5 i5 hx1 K5 K5' z2 z3 z4 hb6 hb8
  go_wp2_with fail
  refine (HT.out.2.2 _).mono ?_
  rintro e w6 ⟨x3, rfl, hx3, i6, k6⟩
  have K7 : Hid (N2 w w6 b6 b8 ∧ BigAt w6 x1 ((BN.pk 1 n : Nat) : Int) ∧ BigAt w6 x3 ((BN.pk 3 n : Nat) : Int)) := ⟨K6.out.1.below k6, K6.out.2.below k6 (Nat.le_refl _), i6⟩
  clear k6 i6 hx3 K6
  obtain ⟨u0, u1, u2, u3, u4⟩ := K7.out.1.f
  obtain ⟨v0, v1, v2, v3, v4⟩ := K7.out.1.v
  go_wp2_with fail
  have S0 : Hid (Slot (w6.alloc (.cells #[.bool false, .slice none 0 0] 37)) w6.heap.size) := slot_new _ _ _
  have zs := K7.out.1.k.size
  have K8 : Hid (N2 w (w6.alloc (.cells #[.bool false, .slice none 0 0] 37)) b6 b8 ∧ BigAt (w6.alloc (.cells #[.bool false, .slice none 0 0] 37)) x1 ((BN.pk 1 n : Nat) : Int) ∧ BigAt (w6.alloc (.cells #[.bool false, .slice none 0 0] 37)) x3 ((BN.pk 3 n : Nat) : Int)) := ⟨K7.out.1.below (Below.alloc_self _ _), K7.out.2.1.below (Below.alloc_self _ _) (Nat.le_refl _), K7.out.2.2.below (Below.alloc_self _ _) (Nat.le_refl _)⟩
  have HN : Hid (x3 ≠ w6.heap.size ∧ N2 w w6 b6 b8) := ⟨by have := K7.out.2.2.slot.lt; omega, K7.out.1⟩
  clear u0 u1 u2 u3 u4 v0 v1 v2 v3 v4 K7
  refine (Mul_any w6.heap.size x1 x1 _ _ 128 128 _ S0.out K8.out.2.1 K8.out.2.1 (by rw [Int.natAbs_natCast]; exact pk_big (by omega) (by omega)) (by rw [Int.natAbs_natCast]; exact pk_big (by omega) (by omega)) (by omega) (by omega)).mono ?_
  rintro e w7 ⟨rfl, i7, u7⟩
  have i7' : BigAt w7 w6.heap.size ((BN.pk 3 n : Nat) : Int) := by rw [← nicomachus, Int.natCast_mul]; exact i7
  have kz : Below w6.heap.size (w6.alloc (.cells #[.bool false, .slice none 0 0] 37)) w7 := u7.below (by simp) (Nat.le_refl _)
  have K9 : Hid (N2 w w7 b6 b8 ∧ BigAt w7 w6.heap.size ((BN.pk 3 n : Nat) : Int) ∧ BigAt w7 x3 ((BN.pk 3 n : Nat) : Int)) := ⟨HN.out.2.below ((Below.alloc_self _ _).trans kz), i7', K8.out.2.2.upd u7 S0.out HN.out.1⟩
  clear i7 i7' u7 kz K8 S0 HN zs
  go_wp2_with fail
  refine (Cmp_any w6.heap.size x3 _ _ 128 128 w7 K9.out.2.1 K9.out.2.2 (by rw [Int.natAbs_natCast]; exact pk_big (by omega) (by omega)) (by rw [Int.natAbs_natCast]; exact pk_big (by omega) (by omega)) (by omega) (by omega)).mono ?_
  rintro e w8 ⟨rfl, q8, rfl⟩
  have cz : cmpZ ((BN.pk 3 n : Nat) : Int) ((BN.pk 3 n : Nat) : Int) = 0 := by unfold cmpZ; simp
  rw [cz]
  have KA : Hid (N2 w (w7.drewN q8) b6 b8) := K9.out.1.below (below_drewN' (Below.refl _ _))
  clear K9 cz HT
  obtain ⟨w8, hw8⟩ : ∃ w8, w8 = w7.drewN q8 := ⟨_, rfl⟩
  rw [← hw8] at KA ⊢
  clear hw8
  by_cases h0 : k < 0
  · have d2 : decide (k < 0) = true := decide_eq_true h0
    go_wp2
    go_ret
    exact ⟨rfl, KA.out.k⟩
  · have d2 : decide (k < 0) = false := decide_eq_false h0
    have d3 : decide (60 < k) = true := decide_eq_true (by omega)
    go_wp2
    go_ret
    exact ⟨rfl, KA.out.k⟩

theorem sum_next (k n : Nat) : ((BN.pk k (n + 1) : Nat) : Int) - ((BN.pk k n : Nat) : Int) = ((n : Int) + 1) ^ k := by
  have h := pk_cast k n
  omega
set_option maxHeartbeats 4000000 in
theorem nico_all (k n : Nat) (w : World) (hn : n < 1000000000000000000) (hk : k ≤ 60) (hBg : Calls Tryz.prog 8 #[] w fun e w' => e = .returned (.bool true) ∧ Below w.heap.size w w') (hSm : SumOk w) :
    Calls Tryz.prog 5 #[.int .i64 (k : Int), .int .i64 (n : Int)] w fun e w' => e = .returned (.bool true) ∧ Below w.heap.size w w' := by
  have HBg : Hid (Calls Tryz.prog 8 #[] w fun e w' => e = .returned (.bool true) ∧ Below w.heap.size w w') := hBg
  have HSm : Hid (SumOk w) := hSm
  clear hBg hSm
  obtain ⟨S1, hS1, hD1⟩ := sum_text 1 n (by omega) (by omega)
  obtain ⟨S3, hS3, hD3⟩ := sum_text 3 n (by omega) (by omega)
  have HT : Hid ((S1 = ⟨(Lib.decDigits (BN.pk 1 n)).toArray⟩ ∧ Dn S1 (BN.pk 1 n)) ∧ (S3 = ⟨(Lib.decDigits (BN.pk 3 n)).toArray⟩ ∧ Dn S3 (BN.pk 3 n))) := ⟨⟨hS1, hD1⟩, ⟨hS3, hD3⟩⟩
  clear hS1 hD1 hS3 hD3
  have d0 : decide ((n : Int) < 0) = false := decide_eq_false (by omega)
  have d1 : decide (1000000000000000000 ≤ (n : Int)) = false := decide_eq_false (by omega)
  go_enter Tryz.func5, Tryz.ntmps5
  go_wp2_with fail
  refine HBg.out.mono ?_
  rintro e w1 ⟨rfl, k1⟩
  have K1 : Hid (Below w.heap.size w w1) := k1
  clear k1 HBg
  go_wp2_with fail
  have hq := HSm.out 1 n w1 K1.out (by omega) (by omega)
  rw [← HT.out.1.1] at hq
  refine hq.mono ?_
  rintro e w2 ⟨rfl, k2⟩
  have K2 : Hid (Below w.heap.size w w2) := K1.out.trans (k2.mono K1.out.size)
  clear k2 K1 hq
  have z2 := K2.out.size
  have K3 : Hid (Sv w2.heap.size 0 0 (w2.alloc (.cells #[.int .i64 0, .int .i64 0] 23)) ∧ Below w.heap.size w (w2.alloc (.cells #[.int .i64 0, .int .i64 0] 23))) := ⟨Sv.new 0 0 w2, K2.out.alloc z2 _⟩
  clear K2
  go_wp2_with fail
  have hq := HSm.out 3 n _ K3.out.2 (by omega) (by omega)
  rw [← HT.out.2.1] at hq
  refine hq.mono ?_
  rintro e w3 ⟨rfl, k3⟩
  have K4 : Hid (Sv w2.heap.size 0 0 w3 ∧ Below w.heap.size w w3) := ⟨K3.out.1.below k3, K3.out.2.trans (k3.mono K3.out.2.size)⟩
  clear k3 K3 hq
  have z3 := K4.out.2.size
  have z4 := K4.out.1.lt
  have K5 : Hid (N2 w (w3.alloc (.cells #[.int .i64 0, .int .i64 0] 23)) w2.heap.size w3.heap.size) := ⟨K4.out.1.alloc _ _, Sv.new 0 0 w3, by omega, z2, z3, K4.out.2.alloc z3 _⟩
  clear K4
  obtain ⟨b6, hb6⟩ : ∃ b, b = w2.heap.size := ⟨_, rfl⟩
  obtain ⟨b8, hb8⟩ : ∃ b, b = w3.heap.size := ⟨_, rfl⟩
  go_wp2_with fail
  rw [← hb6, ← hb8]
  have K5' : Hid (N2 w (w3.alloc (.cells #[.int .i64 0, .int .i64 0] 23)) b6 b8) := by show N2 _ _ _ _; rw [hb6, hb8]; exact K5.out
  refine (HT.out.1.2 _).mono ?_
  rintro e w5 ⟨x1, rfl, hx1, i5, k5⟩
  have K6 : Hid (N2 w w5 b6 b8 ∧ BigAt w5 x1 ((BN.pk 1 n : Nat) : Int)) := ⟨K5'.out.below k5, i5⟩
  clear k5 i5 hx1 K5 K5' z2 z3 z4 hb6 hb8
  go_wp2_with fail
  refine (HT.out.2.2 _).mono ?_
  rintro e w6 ⟨x3, rfl, hx3, i6, k6⟩
  have K7 : Hid (N2 w w6 b6 b8 ∧ BigAt w6 x1 ((BN.pk 1 n : Nat) : Int) ∧ BigAt w6 x3 ((BN.pk 3 n : Nat) : Int)) := ⟨K6.out.1.below k6, K6.out.2.below k6 (Nat.le_refl _), i6⟩
  clear k6 i6 hx3 K6
  obtain ⟨u0, u1, u2, u3, u4⟩ := K7.out.1.f
  obtain ⟨v0, v1, v2, v3, v4⟩ := K7.out.1.v
  go_wp2_with fail
  have S0 : Hid (Slot (w6.alloc (.cells #[.bool false, .slice none 0 0] 37)) w6.heap.size) := slot_new _ _ _
  have zs := K7.out.1.k.size
  have K8 : Hid (N2 w (w6.alloc (.cells #[.bool false, .slice none 0 0] 37)) b6 b8 ∧ BigAt (w6.alloc (.cells #[.bool false, .slice none 0 0] 37)) x1 ((BN.pk 1 n : Nat) : Int) ∧ BigAt (w6.alloc (.cells #[.bool false, .slice none 0 0] 37)) x3 ((BN.pk 3 n : Nat) : Int)) := ⟨K7.out.1.below (Below.alloc_self _ _), K7.out.2.1.below (Below.alloc_self _ _) (Nat.le_refl _), K7.out.2.2.below (Below.alloc_self _ _) (Nat.le_refl _)⟩
  have HN : Hid (x3 ≠ w6.heap.size ∧ N2 w w6 b6 b8) := ⟨by have := K7.out.2.2.slot.lt; omega, K7.out.1⟩
  clear u0 u1 u2 u3 u4 v0 v1 v2 v3 v4 K7
  refine (Mul_any w6.heap.size x1 x1 _ _ 128 128 _ S0.out K8.out.2.1 K8.out.2.1 (by rw [Int.natAbs_natCast]; exact pk_big (by omega) (by omega)) (by rw [Int.natAbs_natCast]; exact pk_big (by omega) (by omega)) (by omega) (by omega)).mono ?_
  rintro e w7 ⟨rfl, i7, u7⟩
  have i7' : BigAt w7 w6.heap.size ((BN.pk 3 n : Nat) : Int) := by rw [← nicomachus, Int.natCast_mul]; exact i7
  have kz : Below w6.heap.size (w6.alloc (.cells #[.bool false, .slice none 0 0] 37)) w7 := u7.below (by simp) (Nat.le_refl _)
  have K9 : Hid (N2 w w7 b6 b8 ∧ BigAt w7 w6.heap.size ((BN.pk 3 n : Nat) : Int) ∧ BigAt w7 x3 ((BN.pk 3 n : Nat) : Int)) := ⟨HN.out.2.below ((Below.alloc_self _ _).trans kz), i7', K8.out.2.2.upd u7 S0.out HN.out.1⟩
  clear i7 i7' u7 kz K8 S0 HN zs
  go_wp2_with fail
  refine (Cmp_any w6.heap.size x3 _ _ 128 128 w7 K9.out.2.1 K9.out.2.2 (by rw [Int.natAbs_natCast]; exact pk_big (by omega) (by omega)) (by rw [Int.natAbs_natCast]; exact pk_big (by omega) (by omega)) (by omega) (by omega)).mono ?_
  rintro e w8 ⟨rfl, q8, rfl⟩
  have cz : cmpZ ((BN.pk 3 n : Nat) : Int) ((BN.pk 3 n : Nat) : Int) = 0 := by unfold cmpZ; simp
  rw [cz]
  have KA : Hid (N2 w (w7.drewN q8) b6 b8) := K9.out.1.below (below_drewN' (Below.refl _ _))
  clear K9 cz HT
  obtain ⟨w8, hw8⟩ : ∃ w8, w8 = w7.drewN q8 := ⟨_, rfl⟩
  rw [← hw8] at KA ⊢
  clear hw8
  have d2 : decide ((k : Int) < 0) = false := decide_eq_false (by omega)
  have d3 : decide (60 < (k : Int)) = false := decide_eq_false (by omega)
  obtain ⟨Sp, hSp, hDp⟩ := sum_text k n hk (by omega)
  obtain ⟨Sq, hSq, hDq⟩ := sum_text k (n + 1) hk (by omega)
  have HU : Hid ((Sp = ⟨(Lib.decDigits (BN.pk k n)).toArray⟩ ∧ Dn Sp (BN.pk k n)) ∧ (Sq = ⟨(Lib.decDigits (BN.pk k (n + 1))).toArray⟩ ∧ Dn Sq (BN.pk k (n + 1)))) := ⟨⟨hSp, hDp⟩, ⟨hSq, hDq⟩⟩
  clear hSp hDp hSq hDq
  go_wp2_with fail
  have hq := HSm.out k n w8 KA.out.k hk (by omega)
  rw [← HU.out.1.1] at hq
  refine hq.mono ?_
  rintro e w9 ⟨rfl, k9⟩
  have L1 := KA.out.below k9
  have L2 : Hid (N2 w ((w9.setCell ⟨b6, 0, none⟩ (.int .i64 0)).setCell ⟨b6, 1, none⟩ (.int .i64 0)) b6 b8) := L1.set6
  obtain ⟨u0, u1, u2, u3, u4⟩ := L1.f
  clear L1 k9 hq KA
  go_wp2_with fail
  clear u0 u1 u2 u3 u4
  obtain ⟨wa, hwa⟩ : ∃ wa, wa = (w9.setCell ⟨b6, 0, none⟩ (.int .i64 0)).setCell ⟨b6, 1, none⟩ (.int .i64 0) := ⟨_, rfl⟩
  rw [← hwa]
  have L3 : Hid (N2 w wa b6 b8) := by rw [hwa]; exact L2.out
  clear hwa L2
  have hq := HSm.out k (n + 1) wa L3.out.k hk (by omega)
  rw [← HU.out.2.1] at hq
  refine hq.mono ?_
  rintro e wb ⟨rfl, kb⟩
  have M1 := L3.out.below kb
  have M2 : Hid (N2 w ((wb.setCell ⟨b8, 0, none⟩ (.int .i64 0)).setCell ⟨b8, 1, none⟩ (.int .i64 0)) b6 b8) := M1.set8
  obtain ⟨v0, v1, v2, v3, v4⟩ := M1.v
  clear M1 kb hq L3
  go_wp2_with fail
  clear v0 v1 v2 v3 v4
  obtain ⟨wc, hwc⟩ : ∃ wc, wc = (wb.setCell ⟨b8, 0, none⟩ (.int .i64 0)).setCell ⟨b8, 1, none⟩ (.int .i64 0) := ⟨_, rfl⟩
  rw [← hwc]
  have M3 : Hid (N2 w wc b6 b8) := by rw [hwc]; exact M2.out
  clear hwc M2
  refine (HU.out.1.2 _).mono ?_
  rintro e wd ⟨xp, rfl, hxp, id, kd⟩
  have M4 : Hid (N2 w wd b6 b8 ∧ BigAt wd xp ((BN.pk k n : Nat) : Int)) := ⟨M3.out.below kd, id⟩
  clear kd id hxp M3
  go_wp2_with fail
  refine (HU.out.2.2 _).mono ?_
  rintro e we ⟨xq, rfl, hxq, ie, ke⟩
  have M5 : Hid (N2 w we b6 b8 ∧ BigAt we xp ((BN.pk k n : Nat) : Int) ∧ BigAt we xq ((BN.pk k (n + 1) : Nat) : Int)) := ⟨M4.out.1.below ke, M4.out.2.below ke (Nat.le_refl _), ie⟩
  clear ke ie hxq M4
  obtain ⟨u0, u1, u2, u3, u4⟩ := M5.out.1.f
  obtain ⟨v0, v1, v2, v3, v4⟩ := M5.out.1.v
  go_wp2_with fail
  clear u0 u1 u2 u3 u4 v0 v1 v2 v3 v4
  have S0 : Hid (Slot (we.alloc (.cells #[.bool false, .slice none 0 0] 37)) we.heap.size) := slot_new _ _ _
  have M6 : Hid (Below w.heap.size w (we.alloc (.cells #[.bool false, .slice none 0 0] 37)) ∧ BigAt (we.alloc (.cells #[.bool false, .slice none 0 0] 37)) xp ((BN.pk k n : Nat) : Int) ∧ BigAt (we.alloc (.cells #[.bool false, .slice none 0 0] 37)) xq ((BN.pk k (n + 1) : Nat) : Int)) := ⟨M5.out.1.k.alloc M5.out.1.k.size _, M5.out.2.1.below (Below.alloc_self _ _) (Nat.le_refl _), M5.out.2.2.below (Below.alloc_self _ _) (Nat.le_refl _)⟩
  have ze := M5.out.1.k.size
  clear M5
  refine (Sub_any we.heap.size xq xp _ _ 128 128 _ S0.out M6.out.2.2 M6.out.2.1 (by rw [Int.natAbs_natCast]; exact pk_big hk (by omega)) (by rw [Int.natAbs_natCast]; exact pk_big hk (by omega)) (by omega) (by omega)).mono ?_
  rintro e wf ⟨rfl, jf, uf⟩
  rw [sum_next] at jf
  have zf := uf.size
  simp at zf
  have M7 : Hid (Below w.heap.size w wf ∧ BigAt wf we.heap.size (((n : Int) + 1) ^ k)) := ⟨M6.out.1.trans (uf.below (by simp; omega) ze), jf⟩
  clear jf uf M6 S0 HU HSm
  go_wp2_with fail
  have S1 : Hid (Slot (wf.alloc (.cells #[.bool false, .slice none 0 0] 37)) wf.heap.size) := slot_new _ _ _
  have M8 : Hid (Below w.heap.size w (wf.alloc (.cells #[.bool false, .slice none 0 0] 37)) ∧ BigAt (wf.alloc (.cells #[.bool false, .slice none 0 0] 37)) we.heap.size (((n : Int) + 1) ^ k)) := ⟨M7.out.1.alloc M7.out.1.size _, M7.out.2.below (Below.alloc_self _ _) (Nat.le_refl _)⟩
  have zz : Hid (we.heap.size < wf.heap.size) := M7.out.2.slot.lt
  clear M7
  refine (B_any ((n : Int) + 1) _ (by omega) (by omega)).mono ?_
  rintro e wg ⟨bg, rfl, mg⟩
  have zg := mg.2.2.size
  simp at zg
  have M9 : Hid (Below w.heap.size w wg ∧ BigAt wg we.heap.size (((n : Int) + 1) ^ k) ∧ Slot wg wf.heap.size ∧ BigAt wg bg ((n : Int) + 1)) := ⟨M8.out.1.trans (mg.2.2.mono (by simp; omega)), M8.out.2.below mg.2.2 (Nat.le_refl _), S1.out.below mg.2.2 (Nat.le_refl _), mg.2.1⟩
  clear mg M8 S1
  go_wp2_with fail
  refine (B_any (k : Int) wg (by omega) (by omega)).mono ?_
  rintro e wh ⟨bh, rfl, mh⟩
  have zh := mh.2.2.size
  have MA : Hid (Below w.heap.size w wh ∧ BigAt wh we.heap.size (((n : Int) + 1) ^ k) ∧ Slot wh wf.heap.size ∧ BigAt wh bg ((n : Int) + 1) ∧ BigAt wh bh (k : Int)) := ⟨M9.out.1.trans (mh.2.2.mono (by omega)), M9.out.2.1.below mh.2.2 (Nat.le_refl _), M9.out.2.2.1.below mh.2.2 (Nat.le_refl _), M9.out.2.2.2.below mh.2.2 (Nat.le_refl _), mh.2.1⟩
  clear mh M9
  go_wp2_with fail
  refine (Exp_nil wf.heap.size bg bh ((n : Int) + 1) k 2 1 wh MA.out.2.2.1 MA.out.2.2.2.1 MA.out.2.2.2.2 (lt_pw2 (by omega) (by omega)) (by rw [show pw 1 = 4294967296 from by decide]; omega) (by omega) (by omega) (by omega)).mono ?_
  rintro e wi ⟨rfl, ji, ui⟩
  have MB : Hid (Below w.heap.size w wi ∧ BigAt wi we.heap.size (((n : Int) + 1) ^ k) ∧ BigAt wi wf.heap.size (((n : Int) + 1) ^ k)) := ⟨MA.out.1.trans (ui.below (by omega) (by omega)), MA.out.2.1.upd ui MA.out.2.2.1 (by have := zz.out; omega), ji⟩
  clear ji ui MA
  have HP : Hid ((((n : Int) + 1) ^ k).natAbs < pw 128) := by
    have h := pk_big (k := k) (n := n + 1) hk (by omega)
    have h0 := pk_big (k := k) (n := n) hk (by omega)
    show _ < _
    rw [← sum_next]
    omega
  go_wp2_with fail
  refine (Cmp_any we.heap.size wf.heap.size _ _ 128 128 wi MB.out.2.1 MB.out.2.2 HP.out HP.out (by omega) (by omega)).mono ?_
  rintro e wj ⟨rfl, qj, rfl⟩
  have cz : cmpZ (((n : Int) + 1) ^ k) (((n : Int) + 1) ^ k) = 0 := by unfold cmpZ; simp
  rw [cz]
  have MC : Hid (Below w.heap.size w (wi.drewN qj)) := below_drewN' MB.out.1
  clear MB HP cz
  go_wp2
  go_ret
  exact ⟨rfl, MC.out⟩

/-- NICOMACHUS, AND HOW SUMS OF POWERS GROW: the law, out of Sum and the example. -/
theorem nico_any (k n : Int) (w : World) (hBg : Calls Tryz.prog 8 #[] w fun e w' => e = .returned (.bool true) ∧ Below w.heap.size w w') (hSm : SumOk w) :
    Calls Tryz.prog 5 #[.int .i64 k, .int .i64 n] w fun e w' => e = .returned (.bool true) ∧ Below w.heap.size w w' := by
  by_cases h : n < 0 ∨ 1000000000000000000 ≤ n
  · exact nico_out k n w h hBg
  · obtain ⟨m, rfl⟩ : ∃ m : Nat, n = (m : Int) := ⟨n.toNat, by omega⟩
    by_cases h2 : k < 0 ∨ 60 < k
    · exact nico_half k m w (by omega) h2 hBg hSm
    · obtain ⟨j, rfl⟩ : ∃ j : Nat, k = (j : Int) := ⟨k.toNat, by omega⟩
      exact nico_all j m w (by omega) (by omega) hBg hSm

end Go.Proofs.YtnkjadpmigpneaaGreatDoor
end

section
/- The laws BernSets and BernNicomachus, of all ints. -/
set_option linter.unusedSimpArgs false
set_option linter.unusedVariables false
set_option maxRecDepth 100000
namespace Go.Proofs.YtnkjadpmigpneaaGreatDoor
open Go.RowKit LgM

theorem begun (w : World) (hQ : Tq w) (hT : Tb w) :
    Calls Tryz.prog 8 #[] w fun e w' => e = .returned (.bool true) ∧ Below w.heap.size w w' :=
  bernBegun_of w (Number_ok 12 w (by omega) hT hQ)
theorem bern_sets (n k : Int) (w : World) (hQ : Tq w) (hT : Tb w) :
    Calls Tryz.prog 6 #[.int .i64 n, .int .i64 k] w fun e w' => e = .returned (.bool true) ∧ Below w.heap.size w w' := by
  have hB : ∀ W, Below w.heap.size w W → Calls Tryz.prog 8 #[] W fun e w' => e = .returned (.bool true) ∧ Below W.heap.size W w' := fun W kk => begun W (hQ.below kk) (hT.below kk)
  by_cases h1 : n < 0 ∨ 200 < n
  · exact sets_bad0 n k w h1 (Sets_bad0 n k w h1) hB
  · by_cases h2 : k < 0 ∨ 200 < k
    · exact sets_bad1 n k w h1 h2 (Sets_bad1 n k w (by omega) h2) hB
    · obtain ⟨n', rfl⟩ : ∃ n' : Nat, n = n' := ⟨n.toNat, by omega⟩
      obtain ⟨k', rfl⟩ : ∃ k' : Nat, k = k' := ⟨k.toNat, by omega⟩
      exact sets_ok n' k' w (by omega) (by omega) (Sets_ok n' k' w (by omega) (by omega) hQ) hB
theorem bern_nico (k n : Int) (w : World) (hQ : Tq w) (hT : Tb w) :
    Calls Tryz.prog 5 #[.int .i64 k, .int .i64 n] w fun e w' => e = .returned (.bool true) ∧ Below w.heap.size w w' :=
  nico_any k n w (begun w hQ hT) (fun k n W kk hk hn => Sum_ok k n W hk hn (hT.below kk) (hQ.below kk))

end Go.Proofs.YtnkjadpmigpneaaGreatDoor
end
