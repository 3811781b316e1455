/- The reference's Digits of a decimal text. -/
import Derived.Test.YtpgedkdaflgfoafGreatDoorRqD
set_option linter.unusedSimpArgs false
set_option linter.unusedVariables false
set_option maxRecDepth 100000
namespace Go.Proofs.YtpgedkdaflgfoafGreatDoor
open Go.RowKit LgM

theorem loop_ne (s : ByteArray) (k i : Nat) (r : List UInt8) (hk : s.size - i = k) (h : r ≠ []) : ByteArray.toList.loop s i r ≠ [] := by
  induction k generalizing i r with
  | zero => unfold ByteArray.toList.loop; rw [if_neg (by omega)]; simpa using h
  | succ k ih => unfold ByteArray.toList.loop; rw [if_pos (by omega)]; exact ih (i + 1) _ (by omega) (by simp)
theorem str_ne (s : ByteArray) (h : 0 < s.size) : ¬ s.toList = [] := by
  unfold ByteArray.toList ByteArray.toList.loop
  rw [if_pos h]
  exact loop_ne s _ _ _ rfl (by simp)

set_option maxHeartbeats 4000000 in
theorem Digits_dec (l : List UInt8) (n : Nat) (w : World) (hd : ∀ c ∈ l, 48 ≤ c.toNat ∧ c.toNat ≤ 57) (hh : 49 ≤ dgi l 0) (h1 : 1 ≤ l.length) (h2 : l.length ≤ 20000) (hn : rd 0 l = n) :
    Calls Tryz.prog 17 #[.string ⟨l.toArray⟩] w fun e w' => ∃ b, e = .returned (.tuple #[.pointer (some ⟨b, 0, none⟩), .bool true]) ∧ w.heap.size ≤ b ∧ BigAt w' b (n : Int) ∧ Below w.heap.size w w' := by
  obtain ⟨s, hs⟩ : ∃ s : ByteArray, s = ⟨l.toArray⟩ := ⟨_, rfl⟩
  obtain ⟨N, hN⟩ : ∃ N, N = l.length := ⟨_, rfl⟩
  have hsz : s.size = N := by rw [hs, hN]; simp [ByteArray.size]
  have hx : ∀ (i : Nat) (h : i < s.size), ((s[i]'h).toNat : Int) = (dgi l i : Int) := fun i h => by
    subst hs; exact str_at l i h
  have hse : ¬ s.toList = [] := str_ne s (by omega)
  have hse2 : s.toList.isEmpty = false := by simpa using hse
  have h0 := dgi_bd hd 0 (by omega)
  have x0 : ((dgi l 0 : Int) == 48) = false := beq_eq_false_iff_ne.2 (by omega)
  have HD : Hid (∀ x ∈ l, 48 ≤ x.toNat ∧ x.toNat ≤ 57) := hd
  have HX : Hid (∀ (i : Nat) (h : i < s.size), ((s[i]'h).toNat : Int) = (dgi l i : Int)) := hx
  have hN1 : 1 ≤ N := by omega
  have hN2 : N ≤ 20000 := by omega
  have HN : Hid (N = l.length) := hN
  have HS : Hid (s = ⟨l.toArray⟩) := hs
  have Hn : Hid (rd 0 l = n) := hn
  have hx0 : ∀ (h : 0 < s.size), ((s[0]'h).toNat : Int) = (dgi l 0 : Int) := hx 0
  rw [← hs]
  clear hd h1 h2 hN hs hn hx hh h0
  have y1 : ((N : Int) == 0) = false := beq_eq_false_iff_ne.2 (by omega)
  have z2 : ¬ (20000 : Int) < (N : Int) := by omega
  have hN7 : N = 1 ∨ (1 : Int) < (N : Int) := by omega
  rcases hN7 with hN7 | hN7
  all_goals
    go_enter Tryz.func17, Tryz.ntmps17
    go_wp2_with fail
    go_loopw [4] (fun iv wx => ∃ i : Nat, i ≤ N ∧ iv = .int .i64 (i : Int) ∧ wx = w) (fun iv _ => N - (intOf iv).toNat)
    case atStart => exact ⟨0, by omega, by go_num, rfl⟩
    case round =>
      obtain ⟨i, hi, hiv, hwx⟩ := hrel
      subst hiv hwx
      by_cases hin : i = N
      · have ht : ¬ (i : Int) < (N : Int) := by omega
        clear hse hse2 x0 hx0 y1 z2
        go_wp2_with fail
        have K0 := (Below.refl wr.heap.size wr).alloc (Nat.le_refl _) (.cells #[.bool false, .slice none 0 0] 48)
        have S0 := slot_new wr (.bool false) (.slice none 0 0)
        have hc := SetString_dec wr.heap.size l _ S0 HD.out (by have := HN.out; omega) (by have := HN.out; omega)
        rw [← HS.out] at hc
        refine hc.mono ?_
        rintro e w2 ⟨rfl, h2, u2⟩
        have HO : Hid (BigAt w2 wr.heap.size (n : Int) ∧ Below wr.heap.size wr w2) := ⟨by rw [← Hn.out]; exact h2, K0.trans (u2.below (by simp) (Nat.le_refl _))⟩
        clear h2 u2 K0 S0 hc
        go_wp2
        exact bodyPost_ret (v := .tuple #[.pointer (some ⟨wr.heap.size, 0, none⟩), .bool true]) (by simp [results, Tryz.results17, go_sem]) rfl ⟨_, rfl, Nat.le_refl _, HO.out.1, HO.out.2⟩
      · have hiN : i < N := by omega
        have hdb := dgi_bd HD.out i (by have := HN.out; omega)
        have hxi : ∀ (h : i < s.size), ((s[i]'h).toNat : Int) = (dgi l i : Int) := HX.out i
        have q1 : ¬ (dgi l i : Int) < 48 := by omega
        have q2 : ¬ (57 : Int) < (dgi l i : Int) := by omega
        generalize dgi l i = D at *
        clear hx0 x0 hdb hse hse2 y1 z2
        go_wp2
        go_roundw
        case rel => exact ⟨i + 1, by omega, by go_num, trivial⟩
        case measure => simp [intOf]; omega

end Go.Proofs.YtpgedkdaflgfoafGreatDoor
