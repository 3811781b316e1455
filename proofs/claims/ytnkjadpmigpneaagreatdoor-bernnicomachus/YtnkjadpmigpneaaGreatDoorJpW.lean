import Derived.Test.YtnkjadpmigpneaaGreatDoorJpE
import Derived.Test.YtnkjadpmigpneaaGreatDoorBigG
import Derived.Laws.StructEq
import Derived.Test.YtnkjadpmigpneaaGreatDoorJpK
import Derived.Test.YtnkjadpmigpneaaGreatDoorJpT
import Derived.Test.YtnkjadpmigpneaaGreatDoorJpV
import Derived.Deep.LoopGhost
import Derived.Test.YtnkjadpmigpneaaGreatDoorJpA
import Derived.Test.YtnkjadpmigpneaaGreatDoorJpM
import Derived.Test.YtnkjadpmigpneaaGreatDoorJpS
section
set_option linter.unusedSimpArgs false
set_option linter.unusedVariables false
set_option maxRecDepth 100000
namespace Go.Proofs.YtnkjadpmigpneaaGreatDoor
open Go.RowKit
end Go.Proofs.YtnkjadpmigpneaaGreatDoor
end

section
set_option linter.unusedSimpArgs false
set_option linter.unusedVariables false
set_option maxRecDepth 100000
namespace Go.Proofs.YtnkjadpmigpneaaGreatDoor
open Go.RowKit
theorem lt_pw2 {x : Int} (h1 : -9223372036854775808 ≤ x) (h2 : x ≤ 9223372036854775807) : x.natAbs < pw 2 := by rw [pw_two]; omega
theorem Below.alloc_self (w : World) (o : Obj) : Below w.heap.size w (w.alloc o) := Below.alloc (Below.refl _ _) (Nat.le_refl _) _
end Go.Proofs.YtnkjadpmigpneaaGreatDoor
end

section
set_option linter.unusedSimpArgs false
set_option linter.unusedVariables false
set_option maxRecDepth 100000
namespace Go.Proofs.YtnkjadpmigpneaaGreatDoor
open Go.RowKit
theorem pk_cast (k i : Nat) : ((BN.pk k i : Nat) : Int) + ((i : Int) + 1) ^ k = ((BN.pk k (i + 1) : Nat) : Int) := by
  show _ = ((BN.pk k i + (i + 1) ^ k : Nat) : Int)
  rw [Int.natCast_add, Int.natCast_pow]
  rfl
end Go.Proofs.YtnkjadpmigpneaaGreatDoor
end

section
set_option linter.unusedSimpArgs false
set_option linter.unusedVariables false
set_option maxRecDepth 100000
namespace Go.Proofs.YtnkjadpmigpneaaGreatDoor
open Go.RowKit
structure Sj (w W : World) (s f n k j : Nat) : Prop where
  sum : BigAt W s (BN.sm (BN.tm n k) j)
  fac : BigAt W f ((BN.fac (j - 1) : Nat) : Int)
  ne : s ≠ f
  s0 : w.heap.size ≤ s
  f0 : w.heap.size ≤ f
  k : Below w.heap.size w W
end Go.Proofs.YtnkjadpmigpneaaGreatDoor
end

section
set_option linter.unusedSimpArgs false
set_option linter.unusedVariables false
set_option maxRecDepth 100000
namespace Go.Proofs.YtnkjadpmigpneaaGreatDoor
open Go.RowKit
end Go.Proofs.YtnkjadpmigpneaaGreatDoor
end

section
set_option linter.unusedSimpArgs false
set_option linter.unusedVariables false
set_option maxRecDepth 100000
namespace Go.Proofs.YtnkjadpmigpneaaGreatDoor
open Go.RowKit
end Go.Proofs.YtnkjadpmigpneaaGreatDoor
end

section
set_option linter.unusedSimpArgs false
set_option linter.unusedVariables false
set_option maxRecDepth 100000
namespace Go.Proofs.YtnkjadpmigpneaaGreatDoor
open Go.RowKit
end Go.Proofs.YtnkjadpmigpneaaGreatDoor
end

section
set_option linter.unusedSimpArgs false
set_option linter.unusedVariables false
set_option maxRecDepth 100000
namespace Go.Proofs.YtnkjadpmigpneaaGreatDoor
open Go.RowKit
end Go.Proofs.YtnkjadpmigpneaaGreatDoor
end

section
set_option linter.unusedSimpArgs false
set_option linter.unusedVariables false
set_option maxRecDepth 100000
namespace Go.Proofs.YtnkjadpmigpneaaGreatDoor
open Go.RowKit
end Go.Proofs.YtnkjadpmigpneaaGreatDoor
end

section
set_option linter.unusedSimpArgs false
set_option linter.unusedVariables false
set_option maxRecDepth 100000
namespace Go.Proofs.YtnkjadpmigpneaaGreatDoor
open Go.RowKit
end Go.Proofs.YtnkjadpmigpneaaGreatDoor
end

section
set_option linter.unusedSimpArgs false
set_option linter.unusedVariables false
set_option maxRecDepth 100000
namespace Go.Proofs.YtnkjadpmigpneaaGreatDoor
open Go.RowKit
structure F2 (w W : World) (bf bv : Nat) (c p c' p' : Int) : Prop where
  f : Sv bf c p W
  v : Sv bv c' p' W
  ne : bf ≠ bv
  lv : w.heap.size ≤ bv
  k : Below w.heap.size w W
end Go.Proofs.YtnkjadpmigpneaaGreatDoor
end

section
set_option linter.unusedSimpArgs false
set_option linter.unusedVariables false
set_option maxRecDepth 100000
namespace Go.Proofs.YtnkjadpmigpneaaGreatDoor
open Go.RowKit LgM
theorem rd_snoc (l : List UInt8) (c : UInt8) : rd 0 (l ++ [c]) = rd 0 l * 10 + (c.toNat - 48) := by simp [rd]
theorem rd_take (l : List UInt8) (i : Nat) (h : i < l.length) : rd 0 (l.take (i + 1)) = rd 0 (l.take i) * 10 + (l[i].toNat - 48) := by
  rw [List.take_succ_eq_append_getElem h, rd_snoc]
theorem rd_le (l : List UInt8) (hd : ∀ c ∈ l, 48 ≤ c.toNat ∧ c.toNat ≤ 57) : rd 0 l < 10 ^ l.length := by
  obtain ⟨n, hn⟩ : ∃ n, n = l.length := ⟨_, rfl⟩
  induction n generalizing l with
  | zero => have : l = [] := List.eq_nil_of_length_eq_zero hn.symm; subst this; simp [rd]
  | succ n ih =>
    have hne : l ≠ [] := by intro h; subst h; simp at hn
    have hs := (List.dropLast_concat_getLast hne).symm
    have h1 := ih l.dropLast (fun c hc => hd c (List.dropLast_subset l hc)) (by simp; omega)
    have h2 := hd _ (List.getLast_mem hne)
    rw [List.length_dropLast, ← hn, Nat.add_sub_cancel] at h1
    rw [← hn, hs, rd_snoc, Nat.pow_succ]
    omega
theorem ten_pw (i : Nat) : 10 ^ i ≤ pw i := by
  induction i with
  | zero => decide
  | succ i ih => rw [Nat.pow_succ, Nat.mul_comm, show pw (i + 1) = 4294967296 * pw i from rfl]; exact Nat.mul_le_mul (by omega) ih
theorem rd_pw (l : List UInt8) (i : Nat) (hd : ∀ c ∈ l, 48 ≤ c.toNat ∧ c.toNat ≤ 57) (h : i ≤ l.length) : rd 0 (l.take i) < pw i := by
  have := rd_le (l.take i) (fun c hc => hd c (List.mem_of_mem_take hc))
  rw [List.length_take, Nat.min_eq_left h] at this
  exact Nat.lt_of_lt_of_le this (ten_pw i)
def dgi (l : List UInt8) (i : Nat) : Nat := (l.getD i 0).toNat
theorem str_at (l : List UInt8) (i : Nat) (h : i < (⟨l.toArray⟩ : ByteArray).size) : (((⟨l.toArray⟩ : ByteArray)[i]'h).toNat : Int) = (dgi l i : Int) := by
  have h2 : i < l.length := by simpa [ByteArray.size] using h
  have e : (⟨l.toArray⟩ : ByteArray)[i]'h = l[i] := rfl
  rw [e]; simp [dgi, List.getD_eq_getElem?_getD, h2]
theorem dgi_bd {l : List UInt8} (hd : ∀ c ∈ l, 48 ≤ c.toNat ∧ c.toNat ≤ 57) (i : Nat) (h : i < l.length) : 48 ≤ dgi l i ∧ dgi l i ≤ 57 := by
  have := hd l[i] (List.getElem_mem h)
  simpa [dgi, List.getD_eq_getElem?_getD, h] using this
theorem rd_dgi (l : List UInt8) (i : Nat) (h : i < l.length) : rd 0 (l.take (i + 1)) = rd 0 (l.take i) * 10 + (dgi l i - 48) := by
  rw [rd_take l i h]; simp [dgi, List.getD_eq_getElem?_getD, h]
set_option maxHeartbeats 4000000 in
theorem SetString_dec (bz : Nat) (l : List UInt8) (w : World) (hz : Slot w bz) (hd : ∀ c ∈ l, 48 ≤ c.toNat ∧ c.toNat ≤ 57) (h1 : 1 ≤ l.length) (h2 : l.length ≤ 20000) :
    Calls Tryz.prog 54 #[.pointer (some ⟨bz, 0, none⟩), .string ⟨l.toArray⟩, .int .i64 10] w fun e w' => e = .returned (.tuple #[.pointer (some ⟨bz, 0, none⟩), .bool true]) ∧ BigAt w' bz (rd 0 l : Int) ∧ Upd bz w w' := by
  obtain ⟨s, hs⟩ : ∃ s : ByteArray, s = ⟨l.toArray⟩ := ⟨_, rfl⟩
  obtain ⟨N, hN⟩ : ∃ N, N = l.length := ⟨_, rfl⟩
  have hsz : s.size = N := by rw [hs, hN]; simp [ByteArray.size]
  have hx : ∀ (i : Nat) (h : i < s.size), ((s[i]'h).toNat : Int) = (dgi l i : Int) := fun i h => by
    subst hs; exact str_at l i h
  have h0 := dgi_bd hd 0 (by omega)
  have x0 : ((dgi l 0 : Int) == 45) = false := beq_eq_false_iff_ne.2 (by omega)
  have x1 : ((dgi l 0 : Int) == 43) = false := beq_eq_false_iff_ne.2 (by omega)
  have HZ : Hid (Slot w bz) := hz
  have HD : Hid (∀ x ∈ l, 48 ≤ x.toNat ∧ x.toNat ≤ 57) := hd
  have hN1 : 1 ≤ N := by omega
  have hN2 : N ≤ 20000 := by omega
  have HN : Hid (N = l.length) := hN
  rw [← hs]
  clear hz hd h1 h2 hN hs
  have y1 : ((N : Int) == 0) = false := beq_eq_false_iff_ne.2 (by omega)
  go_enter Tryz.func54, Tryz.ntmps54
  go_wp2_with fail
  go_loopw [9, 10] (fun rv iv wx => ∃ i : Nat, i ≤ N ∧ iv = .int .i64 (i : Int) ∧ Hid (NS wx rv (rd 0 (l.take i)) ∧ Below w.heap.size w wx)) (fun _ iv _ => N - (intOf iv).toNat)
  case atStart => exact ⟨0, by omega, by go_num, by simpa [rd] using NS.nil w, Below.refl _ _⟩
  case round =>
    obtain ⟨i, hi, hiv, HR⟩ := hrel
    subst hiv
    obtain ⟨ra, rl, rc, hrv, _⟩ := HR.out.1.shape
    subst hrv
    by_cases hin : i = N
    · subst hin
      have HE : Hid (NS wr (.slice ra rl rc) (rd 0 l)) := by have := HR.out.1; rwa [HN.out, List.take_length] at this
      have HK : Hid (Below w.heap.size w wr) := HR.out.2
      clear HR
      go_wp2_with fail
      refine (give_any bz false _ (rd 0 l) _ (HZ.out.below HK.out (Nat.le_refl _)) HE.out).mono ?_
      rintro e w2 ⟨rfl, h2, u2⟩
      have HO : Hid (BigAt w2 bz (rd 0 l : Int) ∧ Upd bz w w2) := ⟨h2, Upd.then_below HK.out u2⟩
      clear h2 u2
      go_wp2
      exact bodyPost_ret (v := .tuple #[.pointer (some ⟨bz, 0, none⟩), .bool true]) (by simp [results, Tryz.results54, go_sem]) rfl ⟨rfl, HO.out.1, HO.out.2⟩
    · have hiN : i < N := by omega
      have hdb := dgi_bd HD.out i (by have := HN.out; omega)
      have HRD : Hid (rd 0 (l.take (i + 1)) = rd 0 (l.take i) * 10 + (dgi l i - 48)) := rd_dgi l i (by have := HN.out; omega)
      have HB : Hid (rd 0 (l.take i) < pw i) := rd_pw l i HD.out (by have := HN.out; omega)
      obtain ⟨d, hd⟩ : ∃ d, d = dgi l i - 48 := ⟨_, rfl⟩
      have hxi : ∀ (h : i < s.size), ((s[i]'h).toNat : Int) = ((d + 48 : Nat) : Int) := fun h => by rw [hx i h]; congr 1; omega
      rw [← hd] at HRD
      have hd9 : d ≤ 9 := by omega
      have HRB : Hid (NS wr (.slice ra rl rc) (rd 0 (l.take i)) ∧ Below w.heap.size w wr) := HR.out
      clear hx hd hdb h0 x0 x1 HR
      have c1 : (48 : Int) ≤ ((d + 48 : Nat) : Int) := by omega
      have c2 : ((d + 48 : Nat) : Int) ≤ 57 := by omega
      have c3 : IntKind.u8.wrap (((d + 48 : Nat) : Int) - 48) = (d : Int) := by rw [IntKind.wrap_u8]; omega
      have c4 : ¬ (10 : Int) ≤ (d : Int) := by omega
      have c5 : IntKind.u64.wrap (d : Int) = (d : Int) := by rw [IntKind.wrap_u64]; omega
      generalize hD48 : d + 48 = D48 at *
      go_wp2_with fail
      refine (words_any 10 (by omega) wr).mono ?_
      rintro e w2 ⟨s2, rfl, n2, k2⟩
      obtain ⟨a2, l2, p2, rfl, _⟩ := n2.shape
      have HN2 : Hid (NS w2 (.slice a2 l2 p2) 10) := n2
      have HR2 : Hid (NS w2 (.slice ra rl rc) (rd 0 (l.take i))) := HRB.out.1.below k2 (Nat.le_refl _)
      have HK2 : Hid (Below w.heap.size w w2) := HRB.out.2.trans (k2.mono HRB.out.2.size)
      clear n2 k2 HRB
      go_wp2_with fail
      refine (mul_any _ _ _ _ i 1 w2 HR2.out HN2.out HB.out (by decide) (by omega) (by omega)).mono ?_
      rintro e w3 ⟨s3, rfl, n3, k3⟩
      obtain ⟨a3, l3, p3, rfl, _⟩ := n3.shape
      have HR3 : Hid (NS w3 (.slice a3 l3 p3) (rd 0 (l.take i) * 10)) := n3
      have HK3 : Hid (Below w.heap.size w w3) := HK2.out.trans (k3.mono HK2.out.size)
      have HB3 : Hid (rd 0 (l.take i) * 10 < pw (i + 1)) := by
        have := HB.out
        rw [show pw (i + 1) = 4294967296 * pw i from rfl]
        show _ < _
        omega
      clear n3 k3 HR2 HN2 HK2 HB
      go_wp2_with fail
      refine (words_any d (by omega) w3).mono ?_
      rintro e w4 ⟨s4, rfl, n4, k4⟩
      obtain ⟨a4, l4, p4, rfl, _⟩ := n4.shape
      have HN4 : Hid (NS w4 (.slice a4 l4 p4) d) := n4
      have HR4 : Hid (NS w4 (.slice a3 l3 p3) (rd 0 (l.take i) * 10)) := HR3.out.below k4 (Nat.le_refl _)
      have HK4 : Hid (Below w.heap.size w w4) := HK3.out.trans (k4.mono HK3.out.size)
      clear n4 k4 HR3 HK3
      go_wp2_with fail
      refine (add_any _ _ _ _ (i + 1) 1 w4 HR4.out HN4.out HB3.out (by rw [show pw 1 = 4294967296 from rfl]; omega) (by omega) (by omega)).mono ?_
      rintro e w5 ⟨s5, rfl, n5, k5⟩
      obtain ⟨a5, l5, p5, rfl, _⟩ := n5.shape
      have HR5 : Hid (NS w5 (.slice a5 l5 p5) (rd 0 (l.take (i + 1)))) := by rw [HRD.out]; exact n5
      have HK5 : Hid (Below w.heap.size w w5) := HK4.out.trans (k5.mono HK4.out.size)
      clear n5 k5 HR4 HN4 HK4
      go_wp2
      go_roundw
      case rel => exact ⟨i + 1, by omega, by go_num, HR5.out, HK5.out⟩
      case measure => simp [intOf]; omega
end Go.Proofs.YtnkjadpmigpneaaGreatDoor
end

section
set_option linter.unusedSimpArgs false
set_option linter.unusedVariables false
set_option maxRecDepth 100000
namespace Go.Proofs.YtnkjadpmigpneaaGreatDoor
open Go.RowKit LgM
theorem loop_ne (s : ByteArray) (k i : Nat) (r : List UInt8) (hk : s.size - i = k) (h : r ≠ []) : ByteArray.toList.loop s i r ≠ [] := by
  induction k generalizing i r with
  | zero => unfold ByteArray.toList.loop; rw [if_neg (by omega)]; simpa using h
  | succ k ih => unfold ByteArray.toList.loop; rw [if_pos (by omega)]; exact ih (i + 1) _ (by omega) (by simp)
theorem str_ne (s : ByteArray) (h : 0 < s.size) : ¬ s.toList = [] := by
  unfold ByteArray.toList ByteArray.toList.loop
  rw [if_pos h]
  exact loop_ne s _ _ _ rfl (by simp)
end Go.Proofs.YtnkjadpmigpneaaGreatDoor
end

section
set_option linter.unusedSimpArgs false
set_option linter.unusedVariables false
set_option maxRecDepth 100000
namespace Go.Proofs.YtnkjadpmigpneaaGreatDoor
open Go.RowKit LgM
set_option maxHeartbeats 4000000 in
theorem Digits_any (l : List UInt8) (n : Nat) (w : World) (hd : ∀ c ∈ l, 48 ≤ c.toNat ∧ c.toNat ≤ 57) (hh : 1 < l.length → 49 ≤ dgi l 0) (h1 : 1 ≤ l.length) (h2 : l.length ≤ 20000) (hn : rd 0 l = n) :
    Calls Tryz.prog 27 #[.string ⟨l.toArray⟩] w fun e w' => ∃ b, e = .returned (.tuple #[.pointer (some ⟨b, 0, none⟩), .bool true]) ∧ w.heap.size ≤ b ∧ BigAt w' b (n : Int) ∧ Below w.heap.size w w' := by
  obtain ⟨s, hs⟩ : ∃ s : ByteArray, s = ⟨l.toArray⟩ := ⟨_, rfl⟩
  obtain ⟨N, hN⟩ : ∃ N, N = l.length := ⟨_, rfl⟩
  have hsz : s.size = N := by rw [hs, hN]; simp [ByteArray.size]
  have hx : ∀ (i : Nat) (h : i < s.size), ((s[i]'h).toNat : Int) = (dgi l i : Int) := fun i h => by
    subst hs; exact str_at l i h
  have hse : ¬ s.toList = [] := str_ne s (by omega)
  have hse2 : s.toList.isEmpty = false := by simpa using hse
  have h0 := dgi_bd hd 0 (by omega)
  have HH : Hid (1 < l.length → 49 ≤ dgi l 0) := hh
  have HD : Hid (∀ x ∈ l, 48 ≤ x.toNat ∧ x.toNat ≤ 57) := hd
  have HX : Hid (∀ (i : Nat) (h : i < s.size), ((s[i]'h).toNat : Int) = (dgi l i : Int)) := hx
  have hN1 : 1 ≤ N := by omega
  have hN2 : N ≤ 20000 := by omega
  have HN : Hid (N = l.length) := hN
  have HS : Hid (s = ⟨l.toArray⟩) := hs
  have Hn : Hid (rd 0 l = n) := hn
  have hx0 : ∀ (h : 0 < s.size), ((s[0]'h).toNat : Int) = (dgi l 0 : Int) := hx 0
  rw [← hs]
  clear hd h1 h2 hN hs hn hx hh h0
  have y1 : ((N : Int) == 0) = false := beq_eq_false_iff_ne.2 (by omega)
  have z2 : ¬ (20000 : Int) < (N : Int) := by omega
  have hN7 : (N = 1 ∧ True) ∨ ((1 : Int) < (N : Int) ∧ ((dgi l 0 : Int) == 48) = false) := by
    by_cases h : N = 1
    · exact .inl ⟨h, trivial⟩
    · have h5 := HH.out (by have := HN.out; omega)
      exact .inr ⟨by omega, beq_eq_false_iff_ne.2 (by omega)⟩
  clear HH
  rcases hN7 with ⟨hN7, x0⟩ | ⟨hN7, x0⟩
  all_goals
    go_enter Tryz.func27, Tryz.ntmps27
    go_wp2_with fail
    go_loopw [4] (fun iv wx => ∃ i : Nat, i ≤ N ∧ iv = .int .i64 (i : Int) ∧ wx = w) (fun iv _ => N - (intOf iv).toNat)
    case atStart => exact ⟨0, by omega, by go_num, rfl⟩
    case round =>
      obtain ⟨i, hi, hiv, hwx⟩ := hrel
      subst hiv hwx
      by_cases hin : i = N
      · have ht : ¬ (i : Int) < (N : Int) := by omega
        clear hse hse2 x0 hx0 y1 z2
        go_wp2_with fail
        have K0 := (Below.refl wr.heap.size wr).alloc (Nat.le_refl _) (.cells #[.bool false, .slice none 0 0] 37)
        have S0 := slot_new wr (.bool false) (.slice none 0 0)
        have hc := SetString_dec wr.heap.size l _ S0 HD.out (by have := HN.out; omega) (by have := HN.out; omega)
        rw [← HS.out] at hc
        refine hc.mono ?_
        rintro e w2 ⟨rfl, h2, u2⟩
        have HO : Hid (BigAt w2 wr.heap.size (n : Int) ∧ Below wr.heap.size wr w2) := ⟨by rw [← Hn.out]; exact h2, K0.trans (u2.below (by simp) (Nat.le_refl _))⟩
        clear h2 u2 K0 S0 hc
        go_wp2
        exact bodyPost_ret (v := .tuple #[.pointer (some ⟨wr.heap.size, 0, none⟩), .bool true]) (by simp [results, Tryz.results27, go_sem]) rfl ⟨_, rfl, Nat.le_refl _, HO.out.1, HO.out.2⟩
      · have hiN : i < N := by omega
        have hdb := dgi_bd HD.out i (by have := HN.out; omega)
        have hxi : ∀ (h : i < s.size), ((s[i]'h).toNat : Int) = (dgi l i : Int) := HX.out i
        have q1 : ¬ (dgi l i : Int) < 48 := by omega
        have q2 : ¬ (57 : Int) < (dgi l i : Int) := by omega
        generalize dgi l i = D at *
        clear hx0 x0 hdb hse hse2 y1 z2
        go_wp2
        go_roundw
        case rel => exact ⟨i + 1, by omega, by go_num, trivial⟩
        case measure => simp [intOf]; omega
theorem Digits_nat (x m : Nat) (w : World) (h : x < pw m) (hm : 1 ≤ m) (hm' : m ≤ 2000) :
    Calls Tryz.prog 27 #[.string ⟨(Lib.decDigits x).toArray⟩] w fun e w' => ∃ b, e = .returned (.tuple #[.pointer (some ⟨b, 0, none⟩), .bool true]) ∧ w.heap.size ≤ b ∧ BigAt w' b (x : Int) ∧ Below w.heap.size w w' := by
  have h2 := dec_pw h hm
  refine Digits_any _ x w (dec_digit x) (fun h1 => ?_) (dec_pos x) (by omega) (rd_dec x)
  have h0 : 0 < x := by
    rcases Nat.eq_zero_or_pos x with e | e
    · subst e; rw [dec_lt (by decide)] at h1; simp at h1
    · exact e
  obtain ⟨c, r, e, hc⟩ := dec_head x h0
  unfold dgi
  rw [e]
  exact hc
end Go.Proofs.YtnkjadpmigpneaaGreatDoor
end
