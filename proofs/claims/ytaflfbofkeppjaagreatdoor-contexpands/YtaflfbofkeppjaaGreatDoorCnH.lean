/- The reference: Comes. -/
import Derived.Test.YtaflfbofkeppjaaGreatDoorCnF
import Derived.Test.YtaflfbofkeppjaaGreatDoorRaN
set_option linter.unusedSimpArgs false
set_option linter.unusedVariables false
set_option maxRecDepth 100000
namespace Go.Proofs.YtaflfbofkeppjaaGreatDoor
open Go.RowKit

theorem pw_pow (k : Nat) : 18446744073709551616 ^ k = pw (2 * k) := by
  induction k with
  | zero => rfl
  | succ k ih => rw [Nat.pow_succ, ih, show 2 * (k + 1) = 2 * k + 2 by omega, pw_add, pw_two]
theorem Fl.mem {l : List Int} (h : Fl l) : ∀ x ∈ l, x.natAbs ≤ 1000000000000000000 := by
  intro x hx
  obtain ⟨i, hi, rfl⟩ := List.getElem_of_mem hx
  have := h.num i hi
  rw [List.getD_eq_getElem?_getD, List.getElem?_eq_getElem hi, Option.getD_some] at this
  omega
theorem Fl.bound {l : List Int} (h : Fl l) (i : Nat) : (CnQ.cf (l.drop i)).1.natAbs < pw 2001 ∧ (CnQ.cf (l.drop i)).2.natAbs < pw 2001 := by
  have b := CnQ.cf_bound (l.drop i) (fun x hx => h.mem x (List.mem_of_mem_drop hx))
  rw [pw_pow] at b
  have h1 : pw (2 * (l.drop i).length) ≤ pw 2000 := pw_le (by have := h.n1; rw [List.length_drop]; omega)
  have h2 : pw 2001 = 4294967296 * pw 2000 := rfl
  have := pw_pos 2000
  omega
theorem small_pw {x : Int} (h : x.natAbs ≤ 1000000000000000000) : x.natAbs < pw 2001 := by
  have h1 : pw 2 ≤ pw 2001 := pw_le (by omega)
  rw [pw_two] at h1
  omega

set_option maxHeartbeats 4000000 in
theorem Comes_any (l : List Int) (b o cap : Nat) (w : World) (hl : Fl l) (hr : Rw b o l w) :
    Calls Tryz.prog 13 #[.slice (some ⟨b, o, none⟩) l.length cap] w fun e w' => ∃ bx, e = .returned (.pointer (some ⟨bx, 0, none⟩)) ∧ Rt w' bx (CnQ.cf l).1 (CnQ.cf l).2 ∧ w.heap.size ≤ bx ∧ Below w.heap.size w w' := by
  have HL : Hid (Fl l) := hl
  have HR : Hid (Rw b o l w) := hr
  obtain ⟨L, hL⟩ : ∃ L, L = l.length := ⟨_, rfl⟩
  rw [← hL]
  have HLe : Hid (L = l.length) := hL
  have hL0 : 1 ≤ L := by have := hl.n0; omega
  have hL1 : L ≤ 1000 := by have := hl.n1; omega
  obtain ⟨i0, hi0⟩ : ∃ i, L = i + 1 := ⟨L - 1, by omega⟩
  obtain ⟨X, hX⟩ : ∃ X, X = l.getD i0 0 := ⟨_, rfl⟩
  have hXn := hl.num i0 (by omega)
  rw [← hX] at hXn
  have c0 := hr.2 i0 (by omega)
  rw [← hX] at c0
  have hbl := hr.1
  have hcell : ∀ ob : Obj, (w.alloc ob).cell? ⟨b, o + i0, none⟩ = some (.int .i64 X) := fun ob => (cell_old_at w ob _ hbl).trans c0
  have hi0e : (L : Int) - 1 = (i0 : Int) := by omega
  have hi0L : i0 < L := by omega
  have HX : Hid (X = l.getD i0 0 ∧ L = i0 + 1) := ⟨hX, hi0⟩
  clear hX hi0 hl hr hL
  have ka : Below w.heap.size w (w.alloc (.cells #[.bool false, .slice none 0 0, .bool false, .slice none 0 0] 37)) := (Below.refl _ _).alloc (Nat.le_refl _) _
  have HB0 : Hid (Calls Tryz.prog 16 #[.int .i64 X] (w.alloc (.cells #[.bool false, .slice none 0 0, .bool false, .slice none 0 0] 37)) fun e w' => ∃ b, e = .returned (.pointer (some ⟨b, 0, none⟩)) ∧ Made (w.alloc (.cells #[.bool false, .slice none 0 0, .bool false, .slice none 0 0] 37)) w' b X) := B_any X _ (by omega) (by omega)
  go_enter Tryz.func13, Tryz.ntmps13
  go_wp2_with fail
  refine HB0.out.mono ?_
  rintro e w1 ⟨b1, rfl, m1⟩
  have K1 : Below w.heap.size w w1 := ka.trans (m1.2.2.mono (by simp))
  have S1 : RSlot w1 w.heap.size := (RSlot.new w _ _ _ _).below m1.2.2
  have HS1 : Hid (Calls Tryz.prog 58 #[.pointer (some ⟨w.heap.size, 0, none⟩), .pointer (some ⟨b1, 0, none⟩)] w1 fun e w' => e = .returned (.pointer (some ⟨w.heap.size, 0, none⟩)) ∧ Rt w' w.heap.size X 1 ∧ Upd w.heap.size w1 w') := SetInt_any w.heap.size b1 0 X 2001 w1 S1 m1.2.1.at (small_pw (by omega)) (by omega) (by omega)
  have HK1 : Hid (Below w.heap.size w w1) := K1
  clear ka m1 K1 S1 HB0 hcell c0
  go_wp2_with fail
  refine HS1.out.mono ?_
  rintro e w2 ⟨rfl, r2, u2⟩
  have HK2 : Hid (Below w.heap.size w w2) := HK1.out.trans (u2.below HK1.out.size (Nat.le_refl _))
  have HR2 : Hid (Rt w2 w.heap.size (CnQ.cf (l.drop (L - 1))).1 (CnQ.cf (l.drop (L - 1))).2) := by
    obtain ⟨h1, h2⟩ := HX.out
    have h3 := HLe.out
    rw [show L - 1 = i0 by omega, CnT.cf_step (by omega), ← h1, List.drop_of_length_le (by omega)]
    simp only [CnQ.cf, Int.mul_one, Int.add_zero]
    exact r2
  clear r2 u2 HS1
  go_wp2
  go_loopg [3, 4] (L - 1) (fun k px pi wx => ∃ (j bx : Nat), px = .pointer (some ⟨bx, 0, none⟩) ∧ pi = .int .i64 ((L : Int) - 1 - (j : Int)) ∧ j + k = L ∧ 1 ≤ j ∧ Hid (Rt wx bx (CnQ.cf (l.drop (L - j))).1 (CnQ.cf (l.drop (L - j))).2 ∧ w.heap.size ≤ bx ∧ Below w.heap.size w wx))
  case atStart => exact ⟨1, w.heap.size, rfl, by congr 1; omega, by omega, by omega, HR2.out, Nat.le_refl _, HK2.out⟩
  case round =>
    clear HR2 HK2 hi0e hi0L HX hXn
    obtain ⟨j, bx, rfl, rfl, hjk, hj1, HI⟩ := hrel
    by_cases hjL : j < L
    · obtain ⟨i, hi⟩ : ∃ i, L = i + 1 + j := ⟨L - 1 - j, by omega⟩
      have e1 : (L : Int) - 1 - (j : Int) = (i : Int) := by omega
      have hiL : i < L := by omega
      obtain ⟨X, hX⟩ : ∃ X, X = l.getD i 0 := ⟨_, rfl⟩
      have hXn := HL.out.num i (by have := HLe.out; omega)
      rw [← hX] at hXn
      have c0 := (HR.out.below HI.out.2.2).2 i (by have := HLe.out; omega)
      rw [← hX] at c0
      have hbl := (HR.out.below HI.out.2.2).1
      have c1 : ∀ ob ob2 : Obj, ((wr.alloc ob).alloc ob2).cell? ⟨b, o + i, none⟩ = some (.int .i64 X) := fun ob ob2 => (cell_old_at (wr.alloc ob) ob2 _ (by simp; omega)).trans ((cell_old_at wr ob _ hbl).trans c0)
      obtain ⟨P, hP⟩ : ∃ P, P = (CnQ.cf (l.drop (i + 1))).1 := ⟨_, rfl⟩
      obtain ⟨Q, hQ⟩ : ∃ Q, Q = (CnQ.cf (l.drop (i + 1))).2 := ⟨_, rfl⟩
      have ht := CnT.cf_tail HL.out.tl (l.length - (i + 1)) (i + 1) (by have := HLe.out; omega) (by omega)
      have hbd := HL.out.bound (i + 1)
      rw [← hP, ← hQ] at ht hbd
      have HRx : Hid (Rt wr bx P Q ∧ w.heap.size ≤ bx ∧ Below w.heap.size w wr) := by
        have := HI.out
        rw [show L - j = i + 1 by omega, ← hP, ← hQ] at this; exact this
      have hcf : CnQ.cf (l.drop i) = (X * P + Q, P) := by rw [CnT.cf_step (by have := HLe.out; omega), ← hX, ← hP, ← hQ]
      have hcl := CnQ.cf_low (l.drop i)
      rw [hcf] at hcl
      have HCf : Hid (CnQ.cf (l.drop i) = (X * P + Q, P) ∧ L = i + 1 + j ∧ Nat.gcd (X * P + Q).natAbs P.natAbs = 1 ∧ 1 ≤ P) := ⟨hcf, hi, hcl, ht.1⟩
      have HRb : Hid (Rb X 1 Q P 2001) := ⟨small_pw (by omega), small_pw (by decide), hbd.2, hbd.1, by omega⟩
      rw [e1]
      have hbz : bx < wr.heap.size := HRx.out.1.at'.num.lt
      have RK0 : Rk w wr w.heap.size [(bx, P, Q)] [] := ⟨HRx.out.2.2, HRx.out.2.2.size, fun p hp => by simp at hp; subst hp; exact HRx.out.1, fun b hb => by cases hb⟩
      have RK2 := (RK0.alloc (.bool false) (.slice none 0 0) (.bool false) (.slice none 0 0)).alloc (.bool false) (.slice none 0 0) (.bool false) (.slice none 0 0)
      rw [World.size_alloc] at RK2
      obtain ⟨W2, hW2⟩ : ∃ W2, W2 = (wr.alloc (.cells #[.bool false, .slice none 0 0, .bool false, .slice none 0 0] 37)).alloc (.cells #[.bool false, .slice none 0 0, .bool false, .slice none 0 0] 37) := ⟨_, rfl⟩
      rw [← hW2] at RK2
      have HRK2 : Hid (Rk w W2 w.heap.size [(bx, P, Q)] [wr.heap.size + 1, wr.heap.size]) := RK2
      have HZ2 : Hid (W2.heap.size = wr.heap.size + 2) := by show _ = _; rw [hW2]; simp
      have HW2 : Hid (W2 = (wr.alloc (.cells #[.bool false, .slice none 0 0, .bool false, .slice none 0 0] 37)).alloc (.cells #[.bool false, .slice none 0 0, .bool false, .slice none 0 0] 37)) := hW2
      have HZw : Hid (w.heap.size ≤ wr.heap.size) := HRx.out.2.2.size
      clear hX hP hQ ht hbd hcf hcl hi e1 RK0 RK2 hW2 c0
      go_wp2_with fail
      rw [← HW2.out]
      refine (B_any X W2 (by omega) (by omega)).mono ?_
      rintro e w3 ⟨b3, rfl, m3⟩
      have HRK3 : Hid (Rk w w3 w.heap.size [(bx, P, Q)] [wr.heap.size + 1, wr.heap.size]) := HRK2.out.below m3.2.2
      have HB3 : Hid (BigAt w3 b3 X ∧ W2.heap.size ≤ w3.heap.size) := ⟨m3.2.1, m3.2.2.size⟩
      clear m3 c1
      go_wp2_with fail
      refine (SetInt_any (wr.heap.size + 1) b3 0 X 2001 w3 (HRK3.out.fr _ (by simp)) HB3.out.1.at HRb.out.P (by omega) (by omega)).mono ?_
      rintro e w4 ⟨rfl, r4, u4⟩
      have HRK4 : Hid (Rk w w4 w.heap.size [(wr.heap.size + 1, X, 1), (bx, P, Q)] [wr.heap.size]) := HRK3.out.upd (HRK3.out.fr _ (by simp)) (by have := HZw.out; omega) r4 u4 (by simp; omega) (by simp)
      have HZ4 : Hid (wr.heap.size + 2 ≤ w4.heap.size) := by show _ ≤ _; have := u4.size; have := HB3.out.2; have := HZ2.out; omega
      clear r4 u4
      have HRK5 : Hid (Rk w (w4.alloc (.cells #[.bool false, .slice none 0 0, .bool false, .slice none 0 0] 37)) w.heap.size [(wr.heap.size + 1, X, 1), (bx, P, Q)] [w4.heap.size, wr.heap.size]) := HRK4.out.alloc _ _ _ _
      go_wp2_with fail
      refine (Inv_pos w4.heap.size bx P Q 2001 _ (HRK5.out.fr _ (by simp)) (HRK5.out.rat (bx, P, Q) (by simp)) (by have := HCf.out.2.2.2; omega) HRb.out.q HRb.out.p (by omega)).mono ?_
      rintro e w6 ⟨rfl, r6, u6⟩
      have HRK6 : Hid (Rk w w6 w.heap.size [(w4.heap.size, Q, P), (wr.heap.size + 1, X, 1)] [wr.heap.size]) := by
        have z4 := HZ4.out
        have zw := HZw.out
        exact HRK5.out.upd (HRK5.out.fr _ (by simp)) (by omega) r6 u6 (by simp; omega) (by simp; omega)
      clear r6 u6
      go_wp2_with fail
      refine (RAdd_any wr.heap.size (wr.heap.size + 1) w4.heap.size X 1 Q P 2001 w6 (HRK6.out.fr _ (by simp)) (HRK6.out.rat (wr.heap.size + 1, X, 1) (by simp)) (HRK6.out.rat (w4.heap.size, Q, P) (by simp)) HRb.out).mono ?_
      rintro e w7 ⟨rfl, A, C, r7, e7, _, _, u7⟩
      have HF : Hid (Rt w7 wr.heap.size (CnQ.cf (l.drop i)).1 (CnQ.cf (l.drop i)).2 ∧ w.heap.size ≤ wr.heap.size ∧ Below w.heap.size w w7) := by
        have hA : A = X * P + Q ∧ C = P := by
          refine low_uniq r7.pos (by have := HCf.out.2.2.2; omega) ?_ r7.low HCf.out.2.2.1
          rw [Int.one_mul, Int.mul_one] at e7
          exact e7
        rw [HCf.out.1]
        obtain ⟨rfl, rfl⟩ := hA
        exact ⟨r7, HZw.out, HRK6.out.bel.trans (u7.below HRK6.out.le HZw.out)⟩
      clear r7 e7 u7
      go_wp2
      go_roundg (gk - 1)
      case rel =>
        have hi := HCf.out.2.1
        refine ⟨j + 1, wr.heap.size, rfl, by congr 1; omega, by omega, by omega, ?_⟩
        rw [show L - (j + 1) = i by omega]
        exact HF.out
      case measure => omega
    · obtain rfl : j = L := by omega
      have hz0 : decide ((0 : Int) ≤ (j : Int) - 1 - (j : Int)) = false := decide_eq_false (by omega)
      have HFi : Hid (Rt wr bx (CnQ.cf l).1 (CnQ.cf l).2 ∧ w.heap.size ≤ bx ∧ Below w.heap.size w wr) := by
        have := HI.out
        rw [Nat.sub_self, List.drop_zero] at this; exact this
      go_wp2
      go_ret
      exact ⟨bx, rfl, HFi.out.1, HFi.out.2.1, HFi.out.2.2⟩

end Go.Proofs.YtaflfbofkeppjaaGreatDoor
