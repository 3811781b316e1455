import Derived.Test.YtmifenflbaohnaaGreatDoorJnJ
import Derived.Test.YtmifenflbaohnaaGreatDoorJnI
import Derived.Test.YtmifenflbaohnaaGreatDoorLgM
section
/- The long numbers' SetString of decimal digits; the reference's Digits. -/
set_option linter.unusedSimpArgs false
set_option linter.unusedVariables false
set_option maxRecDepth 100000
namespace Go.Proofs.YtmifenflbaohnaaGreatDoor
open Go.RowKit LgM

theorem rd_snoc (l : List UInt8) (c : UInt8) : rd 0 (l ++ [c]) = rd 0 l * 10 + (c.toNat - 48) := by simp [rd]
theorem rd_take (l : List UInt8) (i : Nat) (h : i < l.length) : rd 0 (l.take (i + 1)) = rd 0 (l.take i) * 10 + (l[i].toNat - 48) := by
  rw [List.take_succ_eq_append_getElem h, rd_snoc]

theorem rd_le (l : List UInt8) (hd : ∀ c ∈ l, 48 ≤ c.toNat ∧ c.toNat ≤ 57) : rd 0 l < 10 ^ l.length := by
  obtain ⟨n, hn⟩ : ∃ n, n = l.length := ⟨_, rfl⟩
  induction n generalizing l with
  | zero => have : l = [] := List.eq_nil_of_length_eq_zero hn.symm; subst this; simp [rd]
  | succ n ih =>
    have hne : l ≠ [] := by intro h; subst h; simp at hn
    have hs := (List.dropLast_concat_getLast hne).symm
    have h1 := ih l.dropLast (fun c hc => hd c (List.dropLast_subset l hc)) (by simp; omega)
    have h2 := hd _ (List.getLast_mem hne)
    rw [List.length_dropLast, ← hn, Nat.add_sub_cancel] at h1
    rw [← hn, hs, rd_snoc, Nat.pow_succ]
    omega
theorem ten_pw (i : Nat) : 10 ^ i ≤ pw i := by
  induction i with
  | zero => decide
  | succ i ih => rw [Nat.pow_succ, Nat.mul_comm, show pw (i + 1) = 4294967296 * pw i from rfl]; exact Nat.mul_le_mul (by omega) ih
theorem rd_pw (l : List UInt8) (i : Nat) (hd : ∀ c ∈ l, 48 ≤ c.toNat ∧ c.toNat ≤ 57) (h : i ≤ l.length) : rd 0 (l.take i) < pw i := by
  have := rd_le (l.take i) (fun c hc => hd c (List.mem_of_mem_take hc))
  rw [List.length_take, Nat.min_eq_left h] at this
  exact Nat.lt_of_lt_of_le this (ten_pw i)

def dgi (l : List UInt8) (i : Nat) : Nat := (l.getD i 0).toNat
theorem str_at (l : List UInt8) (i : Nat) (h : i < (⟨l.toArray⟩ : ByteArray).size) : (((⟨l.toArray⟩ : ByteArray)[i]'h).toNat : Int) = (dgi l i : Int) := by
  have h2 : i < l.length := by simpa [ByteArray.size] using h
  have e : (⟨l.toArray⟩ : ByteArray)[i]'h = l[i] := rfl
  rw [e]; simp [dgi, List.getD_eq_getElem?_getD, h2]
theorem dgi_bd {l : List UInt8} (hd : ∀ c ∈ l, 48 ≤ c.toNat ∧ c.toNat ≤ 57) (i : Nat) (h : i < l.length) : 48 ≤ dgi l i ∧ dgi l i ≤ 57 := by
  have := hd l[i] (List.getElem_mem h)
  simpa [dgi, List.getD_eq_getElem?_getD, h] using this
theorem rd_dgi (l : List UInt8) (i : Nat) (h : i < l.length) : rd 0 (l.take (i + 1)) = rd 0 (l.take i) * 10 + (dgi l i - 48) := by
  rw [rd_take l i h]; simp [dgi, List.getD_eq_getElem?_getD, h]

set_option maxHeartbeats 4000000 in
theorem SetString_dec (bz : Nat) (l : List UInt8) (w : World) (hz : Slot w bz) (hd : ∀ c ∈ l, 48 ≤ c.toNat ∧ c.toNat ≤ 57) (h1 : 1 ≤ l.length) (h2 : l.length ≤ 20000) :
    Calls Tryz.prog 15 #[.pointer (some ⟨bz, 0, none⟩), .string ⟨l.toArray⟩, .int .i64 10] w fun e w' => e = .returned (.tuple #[.pointer (some ⟨bz, 0, none⟩), .bool true]) ∧ BigAt w' bz (rd 0 l : Int) ∧ Upd bz w w' := by
  obtain ⟨s, hs⟩ : ∃ s : ByteArray, s = ⟨l.toArray⟩ := ⟨_, rfl⟩
  obtain ⟨N, hN⟩ : ∃ N, N = l.length := ⟨_, rfl⟩
  have hsz : s.size = N := by rw [hs, hN]; simp [ByteArray.size]
  have hx : ∀ (i : Nat) (h : i < s.size), ((s[i]'h).toNat : Int) = (dgi l i : Int) := fun i h => by
    subst hs; exact str_at l i h
  have h0 := dgi_bd hd 0 (by omega)
  have x0 : ((dgi l 0 : Int) == 45) = false := beq_eq_false_iff_ne.2 (by omega)
  have x1 : ((dgi l 0 : Int) == 43) = false := beq_eq_false_iff_ne.2 (by omega)
  have HZ : Hid (Slot w bz) := hz
  have HD : Hid (∀ x ∈ l, 48 ≤ x.toNat ∧ x.toNat ≤ 57) := hd
  have hN1 : 1 ≤ N := by omega
  have hN2 : N ≤ 20000 := by omega
  have HN : Hid (N = l.length) := hN
  rw [← hs]
  clear hz hd h1 h2 hN hs
  have y1 : ((N : Int) == 0) = false := beq_eq_false_iff_ne.2 (by omega)
  go_enter Tryz.func15, Tryz.ntmps15
  go_wp2_with fail
  go_loopw [9, 10] (fun rv iv wx => ∃ i : Nat, i ≤ N ∧ iv = .int .i64 (i : Int) ∧ Hid (NS wx rv (rd 0 (l.take i)) ∧ Below w.heap.size w wx)) (fun _ iv _ => N - (intOf iv).toNat)
  case atStart => exact ⟨0, by omega, by go_num, by simpa [rd] using NS.nil w, Below.refl _ _⟩
  case round =>
    obtain ⟨i, hi, hiv, HR⟩ := hrel
    subst hiv
    obtain ⟨ra, rl, rc, hrv, _⟩ := HR.out.1.shape
    subst hrv
    by_cases hin : i = N
    · subst hin
      have HE : Hid (NS wr (.slice ra rl rc) (rd 0 l)) := by have := HR.out.1; rwa [HN.out, List.take_length] at this
      have HK : Hid (Below w.heap.size w wr) := HR.out.2
      clear HR
      go_wp2_with fail
      refine (give_any bz false _ (rd 0 l) _ (HZ.out.below HK.out (Nat.le_refl _)) HE.out).mono ?_
      rintro e w2 ⟨rfl, h2, u2⟩
      have HO : Hid (BigAt w2 bz (rd 0 l : Int) ∧ Upd bz w w2) := ⟨h2, Upd.then_below HK.out u2⟩
      clear h2 u2
      go_wp2
      exact bodyPost_ret (v := .tuple #[.pointer (some ⟨bz, 0, none⟩), .bool true]) (by simp [results, Tryz.results15, go_sem]) rfl ⟨rfl, HO.out.1, HO.out.2⟩
    · have hiN : i < N := by omega
      have hdb := dgi_bd HD.out i (by have := HN.out; omega)
      have HRD : Hid (rd 0 (l.take (i + 1)) = rd 0 (l.take i) * 10 + (dgi l i - 48)) := rd_dgi l i (by have := HN.out; omega)
      have HB : Hid (rd 0 (l.take i) < pw i) := rd_pw l i HD.out (by have := HN.out; omega)
      obtain ⟨d, hd⟩ : ∃ d, d = dgi l i - 48 := ⟨_, rfl⟩
      have hxi : ∀ (h : i < s.size), ((s[i]'h).toNat : Int) = ((d + 48 : Nat) : Int) := fun h => by rw [hx i h]; congr 1; omega
      rw [← hd] at HRD
      have hd9 : d ≤ 9 := by omega
      have HRB : Hid (NS wr (.slice ra rl rc) (rd 0 (l.take i)) ∧ Below w.heap.size w wr) := HR.out
      clear hx hd hdb h0 x0 x1 HR
      have c1 : (48 : Int) ≤ ((d + 48 : Nat) : Int) := by omega
      have c2 : ((d + 48 : Nat) : Int) ≤ 57 := by omega
      have c3 : IntKind.u8.wrap (((d + 48 : Nat) : Int) - 48) = (d : Int) := by rw [IntKind.wrap_u8]; omega
      have c4 : ¬ (10 : Int) ≤ (d : Int) := by omega
      have c5 : IntKind.u64.wrap (d : Int) = (d : Int) := by rw [IntKind.wrap_u64]; omega
      generalize hD48 : d + 48 = D48 at *
      go_wp2_with fail
      refine (words_any 10 (by omega) wr).mono ?_
      rintro e w2 ⟨s2, rfl, n2, k2⟩
      obtain ⟨a2, l2, p2, rfl, _⟩ := n2.shape
      have HN2 : Hid (NS w2 (.slice a2 l2 p2) 10) := n2
      have HR2 : Hid (NS w2 (.slice ra rl rc) (rd 0 (l.take i))) := HRB.out.1.below k2 (Nat.le_refl _)
      have HK2 : Hid (Below w.heap.size w w2) := HRB.out.2.trans (k2.mono HRB.out.2.size)
      clear n2 k2 HRB
      go_wp2_with fail
      refine (mul_any _ _ _ _ i 1 w2 HR2.out HN2.out HB.out (by decide) (by omega) (by omega)).mono ?_
      rintro e w3 ⟨s3, rfl, n3, k3⟩
      obtain ⟨a3, l3, p3, rfl, _⟩ := n3.shape
      have HR3 : Hid (NS w3 (.slice a3 l3 p3) (rd 0 (l.take i) * 10)) := n3
      have HK3 : Hid (Below w.heap.size w w3) := HK2.out.trans (k3.mono HK2.out.size)
      have HB3 : Hid (rd 0 (l.take i) * 10 < pw (i + 1)) := by
        have := HB.out
        rw [show pw (i + 1) = 4294967296 * pw i from rfl]
        show _ < _
        omega
      clear n3 k3 HR2 HN2 HK2 HB
      go_wp2_with fail
      refine (words_any d (by omega) w3).mono ?_
      rintro e w4 ⟨s4, rfl, n4, k4⟩
      obtain ⟨a4, l4, p4, rfl, _⟩ := n4.shape
      have HN4 : Hid (NS w4 (.slice a4 l4 p4) d) := n4
      have HR4 : Hid (NS w4 (.slice a3 l3 p3) (rd 0 (l.take i) * 10)) := HR3.out.below k4 (Nat.le_refl _)
      have HK4 : Hid (Below w.heap.size w w4) := HK3.out.trans (k4.mono HK3.out.size)
      clear n4 k4 HR3 HK3
      go_wp2_with fail
      refine (add_any _ _ _ _ (i + 1) 1 w4 HR4.out HN4.out HB3.out (by rw [show pw 1 = 4294967296 from rfl]; omega) (by omega) (by omega)).mono ?_
      rintro e w5 ⟨s5, rfl, n5, k5⟩
      obtain ⟨a5, l5, p5, rfl, _⟩ := n5.shape
      have HR5 : Hid (NS w5 (.slice a5 l5 p5) (rd 0 (l.take (i + 1)))) := by rw [HRD.out]; exact n5
      have HK5 : Hid (Below w.heap.size w w5) := HK4.out.trans (k5.mono HK4.out.size)
      clear n5 k5 HR4 HN4 HK4
      go_wp2
      go_roundw
      case rel => exact ⟨i + 1, by omega, by go_num, HR5.out, HK5.out⟩
      case measure => simp [intOf]; omega

end Go.Proofs.YtmifenflbaohnaaGreatDoor
end

section
/- The reference's Digits of a decimal text. -/
set_option linter.unusedSimpArgs false
set_option linter.unusedVariables false
set_option maxRecDepth 100000
namespace Go.Proofs.YtmifenflbaohnaaGreatDoor
open Go.RowKit LgM

theorem loop_ne (s : ByteArray) (k i : Nat) (r : List UInt8) (hk : s.size - i = k) (h : r ≠ []) : ByteArray.toList.loop s i r ≠ [] := by
  induction k generalizing i r with
  | zero => unfold ByteArray.toList.loop; rw [if_neg (by omega)]; simpa using h
  | succ k ih => unfold ByteArray.toList.loop; rw [if_pos (by omega)]; exact ih (i + 1) _ (by omega) (by simp)
theorem str_ne (s : ByteArray) (h : 0 < s.size) : ¬ s.toList = [] := by
  unfold ByteArray.toList ByteArray.toList.loop
  rw [if_pos h]
  exact loop_ne s _ _ _ rfl (by simp)

set_option maxHeartbeats 4000000 in
theorem Digits_dec (l : List UInt8) (n : Nat) (w : World) (hd : ∀ c ∈ l, 48 ≤ c.toNat ∧ c.toNat ≤ 57) (hh : 49 ≤ dgi l 0) (h1 : 1 ≤ l.length) (h2 : l.length ≤ 20000) (hn : rd 0 l = n) :
    Calls Tryz.prog 6 #[.string ⟨l.toArray⟩] w fun e w' => ∃ b, e = .returned (.tuple #[.pointer (some ⟨b, 0, none⟩), .bool true]) ∧ w.heap.size ≤ b ∧ BigAt w' b (n : Int) ∧ Below w.heap.size w w' := by
  obtain ⟨s, hs⟩ : ∃ s : ByteArray, s = ⟨l.toArray⟩ := ⟨_, rfl⟩
  obtain ⟨N, hN⟩ : ∃ N, N = l.length := ⟨_, rfl⟩
  have hsz : s.size = N := by rw [hs, hN]; simp [ByteArray.size]
  have hx : ∀ (i : Nat) (h : i < s.size), ((s[i]'h).toNat : Int) = (dgi l i : Int) := fun i h => by
    subst hs; exact str_at l i h
  have hse : ¬ s.toList = [] := str_ne s (by omega)
  have hse2 : s.toList.isEmpty = false := by simpa using hse
  have h0 := dgi_bd hd 0 (by omega)
  have x0 : ((dgi l 0 : Int) == 48) = false := beq_eq_false_iff_ne.2 (by omega)
  have HD : Hid (∀ x ∈ l, 48 ≤ x.toNat ∧ x.toNat ≤ 57) := hd
  have HX : Hid (∀ (i : Nat) (h : i < s.size), ((s[i]'h).toNat : Int) = (dgi l i : Int)) := hx
  have hN1 : 1 ≤ N := by omega
  have hN2 : N ≤ 20000 := by omega
  have HN : Hid (N = l.length) := hN
  have HS : Hid (s = ⟨l.toArray⟩) := hs
  have Hn : Hid (rd 0 l = n) := hn
  have hx0 : ∀ (h : 0 < s.size), ((s[0]'h).toNat : Int) = (dgi l 0 : Int) := hx 0
  rw [← hs]
  clear hd h1 h2 hN hs hn hx hh h0
  have y1 : ((N : Int) == 0) = false := beq_eq_false_iff_ne.2 (by omega)
  have z2 : ¬ (20000 : Int) < (N : Int) := by omega
  have hN7 : N = 1 ∨ (1 : Int) < (N : Int) := by omega
  rcases hN7 with hN7 | hN7
  all_goals
    go_enter Tryz.func6, Tryz.ntmps6
    go_wp2_with fail
    go_loopw [4] (fun iv wx => ∃ i : Nat, i ≤ N ∧ iv = .int .i64 (i : Int) ∧ wx = w) (fun iv _ => N - (intOf iv).toNat)
    case atStart => exact ⟨0, by omega, by go_num, rfl⟩
    case round =>
      obtain ⟨i, hi, hiv, hwx⟩ := hrel
      subst hiv hwx
      by_cases hin : i = N
      · have ht : ¬ (i : Int) < (N : Int) := by omega
        clear hse hse2 x0 hx0 y1 z2
        go_wp2_with fail
        have K0 := (Below.refl wr.heap.size wr).alloc (Nat.le_refl _) (.cells #[.bool false, .slice none 0 0] 34)
        have S0 := slot_new wr (.bool false) (.slice none 0 0)
        have hc := SetString_dec wr.heap.size l _ S0 HD.out (by have := HN.out; omega) (by have := HN.out; omega)
        rw [← HS.out] at hc
        refine hc.mono ?_
        rintro e w2 ⟨rfl, h2, u2⟩
        have HO : Hid (BigAt w2 wr.heap.size (n : Int) ∧ Below wr.heap.size wr w2) := ⟨by rw [← Hn.out]; exact h2, K0.trans (u2.below (by simp) (Nat.le_refl _))⟩
        clear h2 u2 K0 S0 hc
        go_wp2
        exact bodyPost_ret (v := .tuple #[.pointer (some ⟨wr.heap.size, 0, none⟩), .bool true]) (by simp [results, Tryz.results6, go_sem]) rfl ⟨_, rfl, Nat.le_refl _, HO.out.1, HO.out.2⟩
      · have hiN : i < N := by omega
        have hdb := dgi_bd HD.out i (by have := HN.out; omega)
        have hxi : ∀ (h : i < s.size), ((s[i]'h).toNat : Int) = (dgi l i : Int) := HX.out i
        have q1 : ¬ (dgi l i : Int) < 48 := by omega
        have q2 : ¬ (57 : Int) < (dgi l i : Int) := by omega
        generalize dgi l i = D at *
        clear hx0 x0 hdb hse hse2 y1 z2
        go_wp2
        go_roundw
        case rel => exact ⟨i + 1, by omega, by go_num, trivial⟩
        case measure => simp [intOf]; omega

end Go.Proofs.YtmifenflbaohnaaGreatDoor
end

section
/- Plain facts: the state of Knuth's division between two digits. Nothing of the program's run. -/
set_option linter.unusedSimpArgs false
set_option linter.unusedVariables false
set_option maxRecDepth 100000
namespace Go.Proofs.YtmifenflbaohnaaGreatDoor.MathE

/-- Behind the digits from k on: what is left stands in P and Y, the quotient's digits in Q. -/
structure KS (A V n m k : Nat) (P Y Q : List Nat) : Prop where
  lp : P.length = k
  ly : Y.length = n
  lq : Q.length + k = m + 1
  sp : ∀ x ∈ P, x < 4294967296
  sy : ∀ x ∈ Y, x < 4294967296
  sq : ∀ x ∈ Q, x < 4294967296
  lt : val Y < V
  eq : A = val Q * (pw k * V) + (val P + pw k * val Y)

theorem ks_start {U : List Nat} {A V n m : Nat} (hU : U.length = m + 1 + n) (hs : ∀ x ∈ U, x < 4294967296) (hv : val U = A) (hA : A < pw (m + n)) (hn : 1 ≤ n) (hV : pw (n - 1) ≤ V) :
    KS A V n m (m + 1) (U.take (m + 1)) (U.drop (m + 1)) [] := by
  have e := val_append (U.take (m + 1)) (U.drop (m + 1))
  rw [List.take_append_drop, List.length_take, Nat.min_eq_left (by omega), hv] at e
  refine ⟨by simp; omega, by simp; omega, by simp, fun x hx => hs x (List.mem_of_mem_take hx), fun x hx => hs x (List.mem_of_mem_drop hx), by simp, ?_, by simpa [val] using e⟩
  rcases Nat.lt_or_ge (val (U.drop (m + 1))) V with c | c
  · exact c
  · exfalso
    have h1 : pw (m + 1) * pw (n - 1) ≤ pw (m + 1) * val (U.drop (m + 1)) := Nat.mul_le_mul_left _ (by omega)
    rw [← pw_add, show m + 1 + (n - 1) = m + n by omega] at h1
    omega

/-- A list's last word apart. -/
theorem last_apart (l : List Nat) (n : Nat) (h : l.length = n + 1) : l = l.take n ++ [l.getD n 0] := by
  have h1 := List.take_append_drop n l
  rw [List.drop_eq_getElem_cons (by omega), List.drop_eq_nil_of_le (by omega)] at h1
  rw [List.getD_eq_getElem?_getD, List.getElem?_eq_getElem (by omega), Option.getD_some]
  exact h1.symm

/-- The window of one digit. -/
theorem ks_window {A V n m j : Nat} {P Y Q : List Nat} (h : KS A V n m (j + 1) P Y Q) :
    ∃ (P' X : List Nat) (xn : Nat), P'.length = j ∧ X.length = n ∧ (∀ x ∈ P', x < 4294967296) ∧ (∀ x ∈ X, x < 4294967296) ∧ xn < 4294967296 ∧ (∀ Z, P ++ (Y ++ Z) = P' ++ (X ++ (xn :: Z))) ∧
      val X + pw n * xn < 4294967296 * V ∧ A = val Q * (pw (j + 1) * V) + (val P' + pw j * (val X + pw n * xn)) := by
  have e1 := last_apart P j h.lp
  generalize hx0 : P.getD j 0 = x0 at e1
  have hx0s : x0 < 4294967296 := by rw [← hx0]; exact List.getD_lt_of h.sp j
  have e2 := last_apart (x0 :: Y) n (by simp [h.ly])
  generalize hxn : (x0 :: Y).getD n 0 = xn at e2
  have hsm : ∀ x ∈ x0 :: Y, x < 4294967296 := by
    intro x hx; rw [List.mem_cons] at hx; rcases hx with rfl | hx
    · exact hx0s
    · exact h.sy x hx
  have hxns : xn < 4294967296 := by rw [← hxn]; exact List.getD_lt_of hsm n
  have hw : val (x0 :: Y) = val ((x0 :: Y).take n) + pw n * xn := by
    have := val_append ((x0 :: Y).take n) [xn]
    rw [← e2, List.length_take, Nat.min_eq_left (by simp [h.ly])] at this
    rw [this]; simp [val]
  have hw2 : val (x0 :: Y) = x0 + 4294967296 * val Y := rfl
  refine ⟨P.take j, (x0 :: Y).take n, xn, by simp [h.lp], by simp [h.ly], fun x hx => h.sp x (List.mem_of_mem_take hx), fun x hx => hsm x (List.mem_of_mem_take hx), hxns, fun Z => ?_, ?_, ?_⟩
  · have : P ++ (Y ++ Z) = P.take j ++ ((x0 :: Y) ++ Z) := by
      rw [show P ++ (Y ++ Z) = (P.take j ++ [x0]) ++ (Y ++ Z) from by rw [← e1]]; simp
    rw [this]
    rw [show (x0 :: Y) ++ Z = ((x0 :: Y).take n ++ [xn]) ++ Z from by rw [← e2]]
    simp
  · rw [← hw, hw2]; have := h.lt; omega
  · rw [← hw, hw2]
    have h1 := h.eq
    have h2 : val P = val (P.take j) + pw j * x0 := by
      have := val_append (P.take j) [x0]
      rw [← e1, List.length_take, Nat.min_eq_left (by rw [h.lp]; omega)] at this
      rw [this]; simp [val]
    have h3 : pw (j + 1) * val Y = pw j * (4294967296 * val Y) := by
      show 4294967296 * pw j * _ = _
      rw [Nat.mul_comm 4294967296 (pw j), Nat.mul_assoc]
    rw [h1, h2, h3, Nat.mul_add]; omega

theorem ks_next {A V n m j gs W : Nat} {P P' Y Y2 Q : List Nat} (h : KS A V n m (j + 1) P Y Q) (hP : P'.length = j) (sP : ∀ x ∈ P', x < 4294967296) (hA : A = val Q * (pw (j + 1) * V) + (val P' + pw j * W)) (hY : Y2.length = n) (sY : ∀ x ∈ Y2, x < 4294967296)
    (hv : val Y2 + gs * V = W) (hlt : val Y2 < V) (hg : gs < 4294967296) : KS A V n m j P' Y2 (gs :: Q) := by
  refine ⟨hP, hY, by have := h.lq; simp; omega, sP, sY, ?_, hlt, ?_⟩
  · intro x hx; rw [List.mem_cons] at hx; rcases hx with rfl | hx
    · exact hg
    · exact h.sq x hx
  · rw [hA, ← hv, Nat.mul_add]
    have e1 : val (gs :: Q) * (pw j * V) = gs * (pw j * V) + val Q * (pw (j + 1) * V) := by
      show (gs + 4294967296 * val Q) * (pw j * V) = gs * (pw j * V) + val Q * (4294967296 * pw j * V)
      rw [Nat.add_mul]; congr 1
      simp only [Nat.mul_assoc, Nat.mul_comm, Nat.mul_left_comm]
    have e2 : pw j * (gs * V) = gs * (pw j * V) := Nat.mul_left_comm ..
    rw [e1, e2]; omega

/-- The first words of a row of n + 2 words, and what is below them. -/
theorem two_tops (l : List Nat) (n2 : Nat) (h : l.length = n2 + 2) : val l = (l.getD (n2 + 1) 0 * 4294967296 + l.getD n2 0) * pw n2 + val (l.take n2) := by
  rw [val_split l n2 (by omega), List.drop_eq_getElem_cons (show n2 + 1 < l.length by omega), List.drop_eq_nil_of_le (show l.length ≤ n2 + 1 + 1 by omega)]
  rw [List.getD_eq_getElem?_getD (i := n2 + 1), List.getElem?_eq_getElem (show n2 + 1 < l.length by omega), Option.getD_some]
  simp only [val, Nat.mul_zero, Nat.add_zero]
  rw [Nat.mul_comm (pw n2), Nat.add_comm]
  congr 2
  omega

/-- All of a digit's guess. -/
theorem guess_all {V X : List Nat} {n2 xn : Nat} (hV : V.length = n2 + 2) (hX : X.length = n2 + 2) (sV : ∀ x ∈ V, x < 4294967296) (sX : ∀ x ∈ X, x < 4294967296) (hW : val X + pw (n2 + 2) * xn < 4294967296 * val V) (htop : 2147483648 ≤ V.getD (n2 + 1) 0) :
    xn * 4294967296 + X.getD (n2 + 1) 0 ≤ V.getD (n2 + 1) 0 * 4294967296 + V.getD n2 0 ∧
    ((val X + pw (n2 + 2) * xn) / val V) * (V.getD (n2 + 1) 0 * 4294967296 + V.getD n2 0) ≤ (xn * 4294967296 + X.getD (n2 + 1) 0) * 4294967296 + X.getD n2 0 ∧
    (val X + pw (n2 + 2) * xn) / val V < 4294967296 ∧
    ∀ q, q < 4294967296 → q * (V.getD (n2 + 1) 0 * 4294967296 + V.getD n2 0) ≤ (xn * 4294967296 + X.getD (n2 + 1) 0) * 4294967296 + X.getD n2 0 → q * val V < val X + pw (n2 + 2) * xn + val V := by
  have e1 := two_tops V n2 hV
  have e2 := two_tops X n2 hX
  have l1 := take_lt V n2 (by omega) sV
  have l2 := take_lt X n2 (by omega) sX
  have e3 : val X + pw (n2 + 2) * xn = ((xn * 4294967296 + X.getD (n2 + 1) 0) * 4294967296 + X.getD n2 0) * pw n2 + val (X.take n2) := by
    rw [e2]
    have : pw (n2 + 2) * xn = xn * 4294967296 * 4294967296 * pw n2 := by
      show 4294967296 * (4294967296 * pw n2) * xn = _
      simp only [Nat.mul_assoc, Nat.mul_comm, Nat.mul_left_comm]
    rw [this, Nat.add_mul _ _ (pw n2), Nat.add_mul, Nat.add_mul, Nat.add_mul]
    omega
  have hV0 : 0 < val V := by
    rw [e1]
    have := Nat.mul_le_mul_right (pw n2) (show 1 ≤ V.getD (n2 + 1) 0 * 4294967296 + V.getD n2 0 by omega)
    have := pw_pos n2
    omega
  refine ⟨MathD.first_le e1 e3 l1 rfl hW, MathD.digit_fits e1 e3 l2 (Nat.div_mul_le_self _ _), by rw [Nat.div_lt_iff_lt_mul hV0]; exact hW, fun q hq h => MathD.guess_near e1 e3 l1 (by omega) hq h⟩

end Go.Proofs.YtmifenflbaohnaaGreatDoor.MathE
end
