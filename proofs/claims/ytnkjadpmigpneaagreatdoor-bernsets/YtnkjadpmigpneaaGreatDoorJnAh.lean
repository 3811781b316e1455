import Derived.Test.YtnkjadpmigpneaaGreatDoorJnAf
import Derived.Test.YtnkjadpmigpneaaGreatDoorJnA
import Derived.Deep.LoopGhost
import Derived.Test.YtnkjadpmigpneaaGreatDoorJnAg
import Derived.Test.YtnkjadpmigpneaaGreatDoorJnD
import Derived.Test.YtnkjadpmigpneaaGreatDoorJnO
import Derived.Test.YtnkjadpmigpneaaGreatDoorTxB
section
/- The contract of GCD, of two numbers above 0. -/
set_option linter.unusedSimpArgs false
set_option linter.unusedVariables false
set_option maxRecDepth 100000
namespace Go.Proofs.YtnkjadpmigpneaaGreatDoor
open Go.RowKit

theorem lt_pwA {x : Int} (h : x.natAbs ≤ 1000000000000000000) : x.natAbs < pw 2 := by rw [pw_two]; omega

theorem mulA_lt {x y : Int} {m n : Nat} (hx : x.natAbs < pw m) (hy : y.natAbs < pw n) : (x * y).natAbs < pw (m + n) := by
  rw [Int.natAbs_mul, pw_add]; exact Nat.mul_lt_mul'' hx hy

theorem two_new (w : World) : Slot ((w.alloc (.cells #[.bool false, .slice none 0 0] 37)).alloc (.cells #[.bool false, .slice none 0 0] 37)) w.heap.size ∧ Slot ((w.alloc (.cells #[.bool false, .slice none 0 0] 37)).alloc (.cells #[.bool false, .slice none 0 0] 37)) (w.heap.size + 1) ∧
    Below w.heap.size w ((w.alloc (.cells #[.bool false, .slice none 0 0] 37)).alloc (.cells #[.bool false, .slice none 0 0] 37)) ∧ ((w.alloc (.cells #[.bool false, .slice none 0 0] 37)).alloc (.cells #[.bool false, .slice none 0 0] 37)).heap.size = w.heap.size + 2 := by
  have h1 := slot_new w (.bool false) (.slice none 0 0)
  have h2 := slot_new (w.alloc (.cells #[.bool false, .slice none 0 0] 37)) (.bool false) (.slice none 0 0)
  refine ⟨h1.below (Below.alloc_self' _ _) (Nat.le_refl _), by simpa using h2, (Below.alloc_self' w _).trans ((Below.alloc_self' _ _).mono (by simp)), by simp⟩

set_option maxHeartbeats 2000000 in
set_option maxRecDepth 100000 in
theorem GCD_any (bz bx ba bb : Nat) (A B : Nat) (w : World) (hz : Slot w bz) (hx : Slot w bx) (hne : bz ≠ bx) (ha : BigAt w ba (A : Int)) (hb : BigAt w bb (B : Int)) (hA0 : 0 < A) (hB0 : 0 < B) (hA : A ≤ 1000000000000000000) (hB : B ≤ 1000000000000000000) :
    Calls Tryz.prog 94 #[.pointer (some ⟨bz, 0, none⟩), .pointer (some ⟨bx, 0, none⟩), .pointer none, .pointer (some ⟨ba, 0, none⟩), .pointer (some ⟨bb, 0, none⟩)] w fun e w' => ∃ s v : Int, e = .returned (.pointer (some ⟨bz, 0, none⟩)) ∧ BigAt w' bz (Nat.gcd A B : Int) ∧ BigAt w' bx s ∧ s.natAbs ≤ 1000000000000000000 ∧ s * (A : Int) + v * (B : Int) = (Nat.gcd A B : Int) ∧ Upd2 bz bx w w' := by
  obtain ⟨aa, al, ac, ca0, ca1, na, hal⟩ := ha.open
  obtain ⟨ba', bl, bc, cb0, cb1, nb, hbl⟩ := hb.open
  have t1 : 0 < al := hal.2 (by omega)
  have t2 : 0 < bl := hbl.2 (by omega)
  have u1 : ((al : Int) == 0) = false := beq_eq_false_iff_ne.2 (by omega)
  have u2 : ((bl : Int) == 0) = false := beq_eq_false_iff_ne.2 (by omega)
  have lz := hz.lt
  have lx := hx.lt
  have la := ha.lt
  have lb := hb.lt
  have HZ : Hid (Slot w bz) := hz
  have HX : Hid (Slot w bx) := hx
  have HA : Hid (BigAt w ba (A : Int)) := ha
  have HB : Hid (BigAt w bb (B : Int)) := hb
  rw [decide_eq_false (show ¬ (A : Int) < 0 by omega)] at ca0
  have CA0 : Hid (w.cell? ⟨ba, 0, none⟩ = some (.bool false)) := ca0
  clear hz hx ha hb na nb hal hbl cb0
  go_enter Tryz.func94, Tryz.ntmps94
  go_wp2_with fail
  refine (Abs_any w.heap.size ba (A : Int) 2 _ (slot_new w _ _) (HA.out.below (Below.alloc_self' w _) (Nat.le_refl _)) (lt_pwA (by omega)) (by omega)).mono ?_
  rw [show (((A : Int).natAbs : Nat) : Int) = (A : Int) by omega]
  rintro e w1 ⟨rfl, h1, u1'⟩
  have k1 : Below w.heap.size w w1 := (Below.alloc_self' w _).trans (u1'.below (by simp) (Nat.le_refl _))
  have z1 : w.heap.size < w1.heap.size := h1.lt
  have P1 : Hid (BigAt w1 w.heap.size (A : Int)) := h1
  have K1 : Hid (Below w.heap.size w w1) := k1
  have B1 : Hid (BigAt w1 bb (B : Int)) := HB.out.below k1 (Nat.le_refl _)
  clear h1 u1' k1
  go_wp2_with fail
  refine (Abs_any w1.heap.size bb (B : Int) 2 _ (slot_new w1 _ _) (B1.out.below (Below.alloc_self' w1 _) (Nat.le_refl _)) (lt_pwA (by omega)) (by omega)).mono ?_
  rw [show (((B : Int).natAbs : Nat) : Int) = (B : Int) by omega]
  rintro e w2 ⟨rfl, h2, u2'⟩
  have k2 : Below w1.heap.size w1 w2 := (Below.alloc_self' w1 _).trans (u2'.below (by simp) (Nat.le_refl _))
  have z2 : w1.heap.size < w2.heap.size := h2.lt
  have Q2 : Hid (BigAt w2 w1.heap.size (B : Int)) := h2
  have P2 : Hid (BigAt w2 w.heap.size (A : Int)) := P1.out.below k2 (Nat.le_refl _)
  have K2 : Hid (Below w.heap.size w w2) := K1.out.trans (k2.mono (by omega))
  clear h2 u2' k2 B1 P1 K1
  go_wp2_with fail
  refine (NewInt_any 1 _ (by omega) (by omega)).mono ?_
  rintro e w3 ⟨bs, rfl, p3, h3, k3⟩
  have z3 := k3.size
  have ls : bs < w3.heap.size := h3.lt
  have S3 : Hid (BigAt w3 bs 1) := h3
  have Q3 : Hid (BigAt w3 w1.heap.size (B : Int)) := Q2.out.below k3 (Nat.le_refl _)
  have P3 : Hid (BigAt w3 w.heap.size (A : Int)) := P2.out.below k3 (Nat.le_refl _)
  have K3 : Hid (Below w.heap.size w w3) := K2.out.trans (k3.mono (by omega))
  clear h3 k3 Q2 P2 K2
  go_wp2_with fail
  refine (NewInt_any 0 _ (by omega) (by omega)).mono ?_
  rintro e w4 ⟨bt, rfl, p4, h4, k4⟩
  have z4 := k4.size
  have S4 : Hid (BigAt w4 bs 1) := S3.out.below k4 (Nat.le_refl _)
  have T4 : Hid (BigAt w4 bt 0) := h4
  have Q4 : Hid (BigAt w4 w1.heap.size (B : Int)) := Q3.out.below k4 (Nat.le_refl _)
  have P4 : Hid (BigAt w4 w.heap.size (A : Int)) := P3.out.below k4 (Nat.le_refl _)
  have K4 : Hid (Below w.heap.size w w4) := K3.out.trans (k4.mono (by omega))
  clear h4 k4 S3 Q3 P3 K3
  go_wp2_with fail
  go_loopg [15, 16, 17, 18] B (fun k pv qv sv tv wx => ∃ (bp bq bs bt : Nat) (p q s t v nv : Int), pv = .pointer (some ⟨bp, 0, none⟩) ∧ qv = .pointer (some ⟨bq, 0, none⟩) ∧ sv = .pointer (some ⟨bs, 0, none⟩) ∧ tv = .pointer (some ⟨bt, 0, none⟩) ∧ w.heap.size ≤ bs ∧ w.heap.size ≤ bp ∧ w.heap.size ≤ bt ∧ w.heap.size ≤ bq ∧
    Hid (BigAt wx bp p ∧ BigAt wx bq q ∧ BigAt wx bs s ∧ BigAt wx bt t ∧ MathA.Eu (A : Int) (B : Int) p q s v t nv ∧ 0 ≤ p ∧ 0 ≤ q ∧ k = q.natAbs ∧ Below w.heap.size w wx ∧ w4.heap.size ≤ wx.heap.size))
  case atStart => exact ⟨w.heap.size, w1.heap.size, bs, bt, A, B, 1, 0, 0, 1, rfl, rfl, rfl, rfl, by omega, Nat.le_refl _, by omega, by omega, P4.out, Q4.out, S4.out, T4.out, MathA.eu_start _ _ (by omega) (by omega) (by omega), by omega, by omega, by simp, K4.out, Nat.le_refl _⟩
  case round =>
    clear P4 Q4 S4 T4 K4
    obtain ⟨bp, bq, bs, bt, p, q, s, t, v, nv, rfl, rfl, rfl, rfl, gs, gp, gt, gq, HR⟩ := hrel
    have HP : Hid (BigAt wr bp p) := HR.out.1
    have HQ : Hid (BigAt wr bq q) := HR.out.2.1
    have HS : Hid (BigAt wr bs s) := HR.out.2.2.1
    have HT : Hid (BigAt wr bt t) := HR.out.2.2.2.1
    have HEu : Hid (MathA.Eu (A : Int) (B : Int) p q s v t nv) := HR.out.2.2.2.2.1
    have hp0 : 0 ≤ p := HR.out.2.2.2.2.2.1
    have hq0 : 0 ≤ q := HR.out.2.2.2.2.2.2.1
    have HG : Hid (gk = q.natAbs) := HR.out.2.2.2.2.2.2.2.1
    have HK : Hid (Below w.heap.size w wr) := HR.out.2.2.2.2.2.2.2.2.1
    have zr : w4.heap.size ≤ wr.heap.size := HR.out.2.2.2.2.2.2.2.2.2
    clear HR
    obtain ⟨e1, e2, e3, e4, e5, e6⟩ := MathA.eu_bounds HEu.out
    have lq := HQ.out.lt
    have lp := HP.out.lt
    have ls' := HS.out.lt
    have lt' := HT.out.lt
    obtain ⟨qa, ql, qc, cq0, cq1, nq, hql⟩ := HQ.out.open
    by_cases hq : q = 0
    · subst hq
      obtain ⟨g1, g2, g3, g4⟩ := MathA.eu_end (by omega) HEu.out
      have hgc : Int.gcd (A : Int) (B : Int) = Nat.gcd A B := rfl
      rw [hgc] at g1
      have HPG : Hid (p = (Nat.gcd A B : Int)) := by show _ = _; omega
      have HLin : Hid (s * (A : Int) + v * (B : Int) = (Nat.gcd A B : Int)) := by show _ = _; rw [← g3]; exact HPG.out
      have hl : ql = 0 := by
        rcases Nat.eq_zero_or_pos ql with c | c
        · exact c
        · exact absurd (hql.1 c) (by simp)
      subst hl
      have ca : wr.cell? ⟨ba, 0, none⟩ = some (.bool false) := (HK.out.cell (p := ⟨ba, 0, none⟩) la).trans CA0.out
      have HAr : Hid (BigAt wr ba (A : Int)) := HA.out.below HK.out (Nat.le_refl _)
      have HBr : Hid (BigAt wr bb (B : Int)) := HB.out.below HK.out (Nat.le_refl _)
      clear g1 g2 g3 g4 hgc HEu HQ HT hql nq cq0
      go_wp2_with fail
      have k5 := Below.alloc_self' wr (.cells #[.bool false, .slice none 0 0] 37)
      refine (Mul_any wr.heap.size ba bs (A : Int) s 2 2 _ (slot_new wr _ _) (HAr.out.below k5 (Nat.le_refl _)) (HS.out.below k5 (Nat.le_refl _)) (lt_pwA (by omega)) (lt_pwA e3) (by omega) (by omega)).mono ?_
      rintro e w6 ⟨rfl, i6, u6⟩
      have z6 := u6.size
      simp at z6
      have K6 : Hid (Below wr.heap.size wr w6) := k5.trans (u6.below (by simp) (Nat.le_refl _))
      have U6 : Hid (BigAt w6 wr.heap.size ((A : Int) * s)) := i6
      clear i6 u6 k5
      go_wp2_with fail
      refine (Sub_any wr.heap.size bp wr.heap.size p ((A : Int) * s) 2 4 w6 U6.out.slot (HP.out.below K6.out (Nat.le_refl _)) U6.out (lt_pwA e1) (mulA_lt (lt_pwA (by omega)) (lt_pwA e3)) (by omega) (by omega)).mono ?_
      rintro e w7 ⟨rfl, i7, u7⟩
      have z7 := u7.size
      have K7 : Hid (Below wr.heap.size wr w7) := K6.out.trans (u7.below (by omega) (Nat.le_refl _))
      have U7 : Hid (BigAt w7 wr.heap.size (p - (A : Int) * s)) := i7
      have LB : Hid ((p - (A : Int) * s).natAbs < pw 5) := by
        have h1 : ((A : Int) * s).natAbs < pw 4 := mulA_lt (lt_pwA (by omega)) (lt_pwA e3)
        have h2 : p.natAbs < pw 2 := lt_pwA e1
        have h3 := pw_le (show 2 ≤ 4 by omega)
        have h4 : pw 5 = 4294967296 * pw 4 := rfl
        show _ < _
        omega
      clear i7 u7 U6 K6
      go_wp2_with fail
      refine (Quo_any wr.heap.size wr.heap.size bb (p - (A : Int) * s) (B : Int) 5 2 w7 U7.out.slot U7.out (HBr.out.below K7.out (Nat.le_refl _)) (by omega) LB.out (lt_pwA (by omega)) (by omega) (by omega)).mono ?_
      rintro e w8 ⟨rfl, i8, u8⟩
      have z8 := u8.size
      have K8 : Hid (Below wr.heap.size wr w8) := K7.out.trans (u8.below (by omega) (Nat.le_refl _))
      have KK8 : Hid (Below w.heap.size w w8) := HK.out.trans (K8.out.mono (by omega))
      have HX8 : Hid (Slot w8 bx) := HX.out.below KK8.out (Nat.le_refl _)
      have HZ8 : Hid (Slot w8 bz) := HZ.out.below KK8.out (Nat.le_refl _)
      clear i8 u8 U7 K7
      go_wp2_with fail
      refine (Set_any bx bs s 2 w8 HX8.out (HS.out.below K8.out (Nat.le_refl _)) (lt_pwA e3) (by omega)).mono ?_
      rintro e w9 ⟨rfl, i9, u9⟩
      have X9 : Hid (BigAt w9 bx s) := i9
      have U9 : Hid (Upd bx w8 w9) := u9
      have P9 : Hid (BigAt w9 bp p) := (HP.out.below K8.out (Nat.le_refl _)).upd u9 HX8.out (by omega)
      have HZ9 : Hid (Slot w9 bz) := HZ8.out.upd u9 hne
      clear i9 u9
      go_wp2_with fail
      refine (Set_any bz bp p 2 w9 HZ9.out P9.out (lt_pwA e1) (by omega)).mono ?_
      rw [HPG.out]
      rintro e w10 ⟨rfl, i10, u10⟩
      go_wp2
      go_ret
      exact ⟨s, v, rfl, i10, X9.out.upd u10 HZ9.out (Ne.symm hne), e3, HLin.out, ((Upd2.of_below KK8.out).trans (U9.out.two' bz)).trans (u10.two bx)⟩
    · have hl : 0 < ql := hql.2 (by omega)
      obtain ⟨f1, f2, f3, f4, f5, f6⟩ := MathA.eu_step (by omega) (by omega) HEu.out hq
      have em : p.tmod q = p - p.tdiv q * q := by rw [Int.tmod_def, Int.mul_comm]
      have HN : Hid (MathA.Eu (A : Int) (B : Int) q (p.tmod q) t nv (s - p.tdiv q * t) (v - p.tdiv q * nv)) := by rw [em]; exact f1
      have HLT : Hid ((p.tmod q).natAbs < q.natAbs) := by rw [em]; exact f2
      have HM0 : Hid (0 ≤ p.tmod q) := Int.tmod_nonneg q hp0
      have HD : Hid ((p.tdiv q).natAbs ≤ 1000000000000000000) := f3
      have HDT : Hid ((p.tdiv q * t).natAbs ≤ 1000000000000000000) := f5
      have HQ0 : Hid (q ≠ 0) := hq
      clear cq0 nq hql f1 f2 f3 f4 f5 f6 em hq HEu
      go_wp2_with fail
      obtain ⟨n1, n2, n3, n4⟩ := two_new wr
      obtain ⟨w5, hw5⟩ : ∃ w5, w5 = (wr.alloc (.cells #[.bool false, .slice none 0 0] 37)).alloc (.cells #[.bool false, .slice none 0 0] 37) := ⟨_, rfl⟩
      rw [← hw5] at n1 n2 n3 n4 ⊢
      have N1 : Hid (Slot w5 wr.heap.size) := n1
      have N2 : Hid (Slot w5 (wr.heap.size + 1)) := n2
      have N3 : Hid (Below wr.heap.size wr w5) := n3
      clear hw5 n1 n2 n3
      refine (QuoRem_any wr.heap.size bp bq (wr.heap.size + 1) p q 2 2 w5 N1.out N2.out (by omega) (HP.out.below N3.out (Nat.le_refl _)) (HQ.out.below N3.out (Nat.le_refl _)) HQ0.out (lt_pwA e1) (lt_pwA e2) (by omega) (by omega)).mono ?_
      rintro e w6 ⟨rfl, i6, j6, u6⟩
      have z6 := u6.size
      have k6 : Below wr.heap.size wr w6 := N3.out.trans ⟨u6.os, u6.tape, u6.output, u6.size, fun k hk => u6.block k (by omega) (by omega) (by omega)⟩
      have K6 : Hid (Below wr.heap.size wr w6) := k6
      have D6 : Hid (BigAt w6 wr.heap.size (p.tdiv q)) := i6
      have R6 : Hid (BigAt w6 (wr.heap.size + 1) (p.tmod q)) := j6
      clear i6 j6 u6 N1 N2 N3 k6
      go_wp2_with fail
      obtain ⟨n1, n2, n3, n5⟩ := two_new w6
      obtain ⟨w7, hw7⟩ : ∃ w7, w7 = (w6.alloc (.cells #[.bool false, .slice none 0 0] 37)).alloc (.cells #[.bool false, .slice none 0 0] 37) := ⟨_, rfl⟩
      rw [← hw7] at n1 n2 n3 n5 ⊢
      have N1 : Hid (Slot w7 w6.heap.size) := n1
      have N2 : Hid (Slot w7 (w6.heap.size + 1)) := n2
      have N3 : Hid (Below w6.heap.size w6 w7) := n3
      have K7 : Hid (Below wr.heap.size wr w7) := K6.out.trans (n3.mono (by omega))
      have T7 : Hid (BigAt w7 bt t) := HT.out.below K7.out (Nat.le_refl _)
      clear hw7 n1 n2 n3
      refine (Mul_any (w6.heap.size + 1) wr.heap.size bt (p.tdiv q) t 2 2 w7 N2.out (D6.out.below N3.out (Nat.le_refl _)) T7.out (lt_pwA HD.out) (lt_pwA e5) (by omega) (by omega)).mono ?_
      rintro e w8 ⟨rfl, i8, u8⟩
      have z8 := u8.size
      have M8 : Hid (BigAt w8 (w6.heap.size + 1) (p.tdiv q * t)) := i8
      have K8 : Hid (Below wr.heap.size wr w8) := K7.out.trans (u8.below (by omega) (by omega))
      have S8 : Hid (BigAt w8 bs s) := HS.out.below K8.out (Nat.le_refl _)
      have N8 : Hid (Slot w8 w6.heap.size) := N1.out.upd u8 (by omega)
      have R8 : Hid (BigAt w8 (wr.heap.size + 1) (p.tmod q)) := (R6.out.below N3.out (Nat.le_refl _)).upd u8 N2.out (by omega)
      clear i8 u8 N1 N2 N3 T7 K7 D6 R6 K6
      go_wp2_with fail
      refine (Sub_any w6.heap.size bs (w6.heap.size + 1) s (p.tdiv q * t) 2 2 w8 N8.out S8.out M8.out (lt_pwA e3) (lt_pwA HDT.out) (by omega) (by omega)).mono ?_
      rintro e w9 ⟨rfl, i9, u9⟩
      have z9 := u9.size
      have T9 : Hid (BigAt w9 w6.heap.size (s - p.tdiv q * t)) := i9
      have K9 : Hid (Below wr.heap.size wr w9) := K8.out.trans (u9.below (by omega) (by omega))
      have R9 : Hid (BigAt w9 (wr.heap.size + 1) (p.tmod q)) := R8.out.upd u9 N8.out (by omega)
      clear i9 u9 N8 S8 M8 K8 R8
      go_wp2
      go_roundg ((p.tmod q).natAbs)
      case measure => rw [HG.out]; exact HLT.out
      case rel =>
        exact ⟨bq, wr.heap.size + 1, bt, w6.heap.size, q, p.tmod q, t, s - p.tdiv q * t, nv, v - p.tdiv q * nv, rfl, rfl, rfl, rfl, gt, gq, by omega, by omega, HQ.out.below K9.out (Nat.le_refl _), R9.out, HT.out.below K9.out (Nat.le_refl _), T9.out, HN.out, hq0, HM0.out, rfl, HK.out.trans (K9.out.mono (by omega)), by omega⟩

end Go.Proofs.YtnkjadpmigpneaaGreatDoor
end

section
/- Contracts of the reference: Product, Power, Above. -/
set_option linter.unusedSimpArgs false
set_option linter.unusedVariables false
set_option maxRecDepth 100000
namespace Go.Proofs.YtnkjadpmigpneaaGreatDoor
open Go.RowKit
theorem pow_cast (a : Int) (n m : Nat) (h0 : 0 < m) : (a % (m : Int)) ^ n % (m : Int) = (((a % (m : Int)).toNat ^ n % m : Nat) : Int) := by
  have h1 := Int.emod_nonneg a (show (m : Int) ≠ 0 by omega)
  obtain ⟨A, hA⟩ := Int.eq_ofNat_of_zero_le h1
  rw [hA]
  simp

end Go.Proofs.YtnkjadpmigpneaaGreatDoor
end

section
/- A plain fact on powers. -/
set_option linter.unusedSimpArgs false
set_option linter.unusedVariables false
set_option maxRecDepth 100000
namespace Go.Proofs.YtnkjadpmigpneaaGreatDoor
open Go.RowKit

theorem le_pow (r k : Nat) (hk : 1 ≤ k) : r ≤ r ^ k := by
  rcases Nat.eq_zero_or_pos r with h | h
  · omega
  · have := Nat.pow_le_pow_right h hk
    simpa using this

end Go.Proofs.YtnkjadpmigpneaaGreatDoor
end

section
/- The contract of the reference's Joined. -/
set_option linter.unusedSimpArgs false
set_option linter.unusedVariables false
set_option maxRecDepth 100000
namespace Go.Proofs.YtnkjadpmigpneaaGreatDoor
open Go.RowKit

/-- One place joined, as the reference does it. -/
theorem join_ref {r m n : Nat} {a s v q : Int} (hr : r < m) (hn : 1 ≤ n) (hl : s * (m : Int) + v * (n : Int) = (Nat.gcd m n : Int)) (hd : a - (r : Int) = (Nat.gcd m n : Int) * q) :
    ∃ R : Nat, ((r : Int) + q * s * (m : Int)) % ((m : Int) * ((n / Nat.gcd m n : Nat) : Int)) = (R : Int) ∧ R < m * (n / Nat.gcd m n) ∧ (m : Int) ∣ (R : Int) - (r : Int) ∧ (n : Int) ∣ (R : Int) - a := by
  have hg0 : 0 < Nat.gcd m n := Nat.gcd_pos_of_pos_left _ (by omega)
  have hk0 : 0 < n / Nat.gcd m n := Nat.div_pos (Nat.le_of_dvd (by omega) (Nat.gcd_dvd_right m n)) hg0
  have hM0 : 0 < m * (n / Nat.gcd m n) := Nat.mul_pos (by omega) hk0
  have eM : (m : Int) * ((n / Nat.gcd m n : Nat) : Int) = ((m * (n / Nat.gcd m n) : Nat) : Int) := by simp
  have d1 : (m : Int) ∣ ((m * (n / Nat.gcd m n) : Nat) : Int) := by rw [← eM]; exact Int.dvd_mul_right ..
  have d2 : (n : Int) ∣ ((m * (n / Nat.gcd m n) : Nat) : Int) := by
    rw [← MathC.lcm_mul, Int.ofNat_dvd_left]; exact Nat.dvd_lcm_right _ _
  rw [eM]
  generalize m * (n / Nat.gcd m n) = M at *
  have h0 := Int.emod_nonneg ((r : Int) + q * s * (m : Int)) (show (M : Int) ≠ 0 by omega)
  have h1 := Int.emod_lt_of_pos ((r : Int) + q * s * (m : Int)) (show 0 < (M : Int) by omega)
  have h2 := Int.emod_add_mul_ediv ((r : Int) + q * s * (m : Int)) (M : Int)
  obtain ⟨R, hR⟩ := Int.eq_ofNat_of_zero_le h0
  rw [hR] at h1 h2
  refine ⟨R, hR, by omega, ?_, ?_⟩
  · have e : (R : Int) - (r : Int) = q * s * (m : Int) - (M : Int) * (((r : Int) + q * s * (m : Int)) / (M : Int)) := by omega
    rw [e]
    exact Int.dvd_sub (Int.dvd_mul_left ..) (Int.dvd_trans d1 (Int.dvd_mul_right ..))
  · have e1 : q * s * (m : Int) = (Nat.gcd m n : Int) * q - q * v * (n : Int) := by
      have h5 : q * s * (m : Int) + q * v * (n : Int) = q * (s * (m : Int) + v * (n : Int)) := by rw [Int.mul_add, Int.mul_assoc, Int.mul_assoc]
      have h6 : q * (s * (m : Int) + v * (n : Int)) = (Nat.gcd m n : Int) * q := by rw [hl, Int.mul_comm]
      omega
    have e : (R : Int) - a = -(q * v * (n : Int)) - (M : Int) * (((r : Int) + q * s * (m : Int)) / (M : Int)) := by omega
    rw [e]
    exact Int.dvd_sub (Int.dvd_neg.2 (Int.dvd_mul_left ..)) (Int.dvd_trans d2 (Int.dvd_mul_right ..))

theorem Sv.of_block {b : Nat} {c d : Int} {w w' : World} (h : Sv b c d w) (e : w'.heap[b]? = w.heap[b]?) (z : w.heap.size ≤ w'.heap.size) : Sv b c d w' :=
  ⟨(World.cell?_of_block e).trans h.c0, (World.cell?_of_block e).trans h.c1, (World.frozen?_of_block e).trans h.f0, (World.frozen?_of_block e).trans h.f1, Nat.lt_of_lt_of_le h.lt z⟩
theorem Sv.upd {b b' : Nat} {c d : Int} {w w' : World} (h : Sv b c d w) (u : Upd b' w w') (hne : b ≠ b') : Sv b c d w' := h.of_block (u.block b h.lt hne) u.size
theorem Sv.upd2 {b b' b'' : Nat} {c d : Int} {w w' : World} (h : Sv b c d w) (u : Upd2 b' b'' w w') (h1 : b ≠ b') (h2 : b ≠ b'') : Sv b c d w' := h.of_block (u.block b h.lt h1 h2) u.size

theorem lt_pwB {x : Int} (h : x.natAbs ≤ 4000000000000000000) : x.natAbs < pw 2 := by rw [pw_two]; omega
theorem pw_four : pw 4 = 340282366920938463463374607431768211456 := by decide

end Go.Proofs.YtnkjadpmigpneaaGreatDoor
end

section
/- The reference's Ints: two lists of numbers that are the same. -/
set_option linter.unusedSimpArgs false
set_option linter.unusedVariables false
set_option maxRecDepth 100000
namespace Go.Proofs.YtnkjadpmigpneaaGreatDoor
open Go.RowKit
end Go.Proofs.YtnkjadpmigpneaaGreatDoor
end

section
/- Joining: what comes out is one thing alone; and the reference's Ints. -/
set_option linter.unusedSimpArgs false
set_option linter.unusedVariables false
set_option maxRecDepth 100000
namespace Go.Proofs.YtnkjadpmigpneaaGreatDoor
open Go.RowKit

theorem jl_more (ms : List Int) (k : Nat) : ∀ k', k ≤ k' → MathC.jl ms k ∣ MathC.jl ms k' := by
  intro k'
  induction k' with
  | zero => intro h; have e : k = 0 := by omega
            rw [e]; exact Nat.dvd_refl _
  | succ q ih =>
    intro h
    by_cases e : k = q + 1
    · subst e; exact Nat.dvd_refl _
    · exact Nat.dvd_trans (ih (by omega)) (Nat.dvd_lcm_left _ _)

theorem jst_passes {rs ms : List Int} {k r m k' r' m' : Nat} {R M c : Int} (h1 : MathC.JSt rs ms k r m) (h2 : MathC.JSt rs ms k' r' m') (hk : k < k') (ho : JOne r m (rs.getD k 0) (ms.getD k 0) R M c) : c = 0 := by
  obtain ⟨o1, o2, o3, o4⟩ := h2.ok k hk
  rcases ho.cases with ⟨_, _, _, hb⟩ | ⟨ha, n, hn, n1, n2, ⟨_, _, _, h5⟩ | ⟨_, _, _, _, h9⟩ | ⟨h0, _⟩⟩
  · exfalso
    have : numB (rs.getD k 0) = true := by generalize rs.getD k 0 = x at o1 o2 ⊢; simp [numB]; omega
    rcases hb with hb | hb | hb
    · rw [this] at hb; cases hb
    · omega
    · omega
  · exfalso
    apply h5
    have d1 : (m : Int) ∣ (r' : Int) - (r : Int) := by
      rw [h1.lcm]
      refine MathC.jl_dvd ms _ k fun j hj => ⟨(h1.ok j hj).2.2.1, ?_⟩
      have e1 := h1.cong j hj
      have e2 := h2.cong j (by omega)
      have : (r' : Int) - (r : Int) = ((r' : Int) - rs.getD j 0) - ((r : Int) - rs.getD j 0) := by omega
      rw [this]; exact Int.dvd_sub e2 e1
    have d2 : (n : Int) ∣ (r' : Int) - rs.getD k 0 := by rw [← hn]; exact h2.cong k hk
    have g1 : (Nat.gcd m n : Int) ∣ (m : Int) := by rw [Int.ofNat_dvd_left]; exact Nat.gcd_dvd_left m n
    have g2 : (Nat.gcd m n : Int) ∣ (n : Int) := by rw [Int.ofNat_dvd_left]; exact Nat.gcd_dvd_right m n
    have : rs.getD k 0 - (r : Int) = ((r' : Int) - (r : Int)) - ((r' : Int) - rs.getD k 0) := by omega
    rw [this]; exact Int.dvd_sub (Int.dvd_trans g1 d1) (Int.dvd_trans g2 d2)
  · exfalso
    have e : m * (n / Nat.gcd m n) = MathC.jl ms (k + 1) := by
      show _ = Nat.lcm (MathC.jl ms k) (ms.getD k 0).toNat
      rw [hn, Int.toNat_natCast, ← h1.lcm, MathC.lcm_mul]
    have d := jl_more ms (k + 1) k' (by omega)
    rw [← h2.lcm, ← e] at d
    have hle := Nat.le_of_dvd (by have := h2.hi; omega) d
    have := h2.cap
    omega
  · exact h0

theorem jone_same {r m : Nat} {a b R M c R' M' c' : Int} (h : JOne r m a b R M c) (h' : JOne r m a b R' M' c') : c = c' := by
  rcases h.cases with ⟨c1, _, _, hb⟩ | ⟨ha, n, hn, n1, n2, h3⟩
  · rcases h'.cases with ⟨c2, _⟩ | ⟨ha', n', hn', n1', n2', _⟩
    · omega
    · exfalso
      rcases hb with hb | hb | hb
      · rw [ha'] at hb; cases hb
      · omega
      · omega
  · rcases h'.cases with ⟨c2, _, _, hb⟩ | ⟨ha', n', hn', n1', n2', h4⟩
    · exfalso
      rcases hb with hb | hb | hb
      · rw [ha] at hb; cases hb
      · omega
      · omega
    · obtain rfl : n = n' := by omega
      rcases h3 with ⟨c1, _, _, p⟩ | ⟨c1, _, _, p, q⟩ | ⟨c1, _, _, _, q, _, _, _, p⟩ <;> rcases h4 with ⟨c2, _, _, p'⟩ | ⟨c2, _, _, p', q'⟩ | ⟨c2, _, _, _, q', _, _, _, p'⟩
      · omega
      · exact absurd p' p
      · exact absurd p' p
      · exact absurd p p'
      · omega
      · omega
      · exact absurd p p'
      · omega
      · omega

theorem jout_unique {rs ms : List Int} {R M c a R' M' c' a' : Int} (h : JOut rs ms R M c a) (h' : JOut rs ms R' M' c' a') : R = R' ∧ M = M' ∧ c = c' ∧ a = a' := by
  rcases h.cases with ⟨p, r1, r2, r3, r4⟩ | ⟨p1, p2, p3, r1, r2, r3, r4⟩ | ⟨p1, p2, k, r, m, _, _, hk, hj, e1, e2, e3, e4, ho⟩ | ⟨p1, p2, r, m, hj, e1, e2, e3, e4⟩ <;>
    rcases h'.cases with ⟨q, s1, s2, s3, s4⟩ | ⟨q1, q2, q3, s1, s2, s3, s4⟩ | ⟨q1, q2, k', r', m', _, _, hk', hj', f1, f2, f3, f4, ho'⟩ | ⟨q1, q2, r', m', hj', f1, f2, f3, f4⟩
  · omega
  · omega
  · omega
  · omega
  · omega
  · omega
  · omega
  · omega
  · omega
  · omega
  · rcases Nat.lt_trichotomy k k' with l | l | l
    · exact absurd (jst_passes hj hj' l ho) e4
    · subst l
      obtain ⟨rfl, rfl⟩ := MathC.jst_unique hj hj'
      have := jone_same ho ho'
      omega
    · exact absurd (jst_passes hj' hj l ho') f4
  · exact absurd (jst_passes hj hj' hk ho) e4
  · omega
  · omega
  · exact absurd (jst_passes hj' hj hk' ho') f4
  · obtain ⟨rfl, rfl⟩ := MathC.jst_unique hj hj'
    omega

end Go.Proofs.YtnkjadpmigpneaaGreatDoor
end

section
/- The law BernSets, out of what is asked of the code: Sets, and the example bernBegun. -/
set_option linter.unusedSimpArgs false
set_option linter.unusedVariables false
set_option maxRecDepth 100000
namespace Go.Proofs.YtnkjadpmigpneaaGreatDoor
open Go.RowKit

/-- Two faults that variables hold: the one told, the one reckoned. -/
structure F2 (w W : World) (bf bv : Nat) (c p c' p' : Int) : Prop where
  f : Sv bf c p W
  v : Sv bv c' p' W
  ne : bf ≠ bv
  lv : w.heap.size ≤ bv
  k : Below w.heap.size w W
theorem F2.below {w W W' : World} {bf bv : Nat} {c p c' p' : Int} (h : F2 w W bf bv c p c' p') (l : Below W.heap.size W W') : F2 w W' bf bv c p c' p' :=
  ⟨h.f.below l, h.v.below l, h.ne, h.lv, h.k.trans (l.mono h.k.size)⟩
theorem F2.set {w W : World} {bf bv : Nat} {c p c' p' : Int} (h : F2 w W bf bv c p c' p') (x y : Int) : F2 w ((W.setCell ⟨bv, 0, none⟩ (.int .i64 x)).setCell ⟨bv, 1, none⟩ (.int .i64 y)) bf bv c p x y :=
  ⟨h.f.other _ _ (Ne.symm h.ne), h.v.set x y, h.ne, h.lv, (h.k.setCell h.lv _).setCell h.lv _⟩
theorem F2.new {w W : World} (k : Below w.heap.size w W) (c p c' p' : Int) : F2 w ((W.alloc (.cells #[.int .i64 c, .int .i64 p] 23)).alloc (.cells #[.int .i64 c', .int .i64 p'] 23)) W.heap.size (W.heap.size + 1) c p c' p' := by
  have h1 := (Sv.new c p W).alloc #[.int .i64 c', .int .i64 p'] 23
  have h2 := Sv.new c' p' (W.alloc (.cells #[.int .i64 c, .int .i64 p] 23))
  have z := k.size
  refine ⟨h1, ?_, by omega, by omega, (k.alloc z _).alloc (by simp; omega) _⟩
  simpa using h2

set_option maxHeartbeats 4000000 in
theorem sets_bad0 (n k : Int) (w : World) (hn : n < 0 ∨ 200 < n) (hSt : Calls Tryz.prog 33 #[.int .i64 n, .int .i64 k] w fun e w' => e = .returned (.tuple #[.string ⟨#[]⟩, .agg #[.int .i64 3, .int .i64 0]]) ∧ Below w.heap.size w w') (hBg : ∀ W, Below w.heap.size w W → Calls Tryz.prog 8 #[] W fun e w' => e = .returned (.bool true) ∧ Below W.heap.size W w') :
    Calls Tryz.prog 6 #[.int .i64 n, .int .i64 k] w fun e w' => e = .returned (.bool true) ∧ Below w.heap.size w w' := by
  have HSt : Hid (Calls Tryz.prog 33 #[.int .i64 n, .int .i64 k] w fun e w' => e = .returned (.tuple #[.string ⟨#[]⟩, .agg #[.int .i64 3, .int .i64 0]]) ∧ Below w.heap.size w w') := hSt
  have HBg : Hid (∀ W, Below w.heap.size w W → Calls Tryz.prog 8 #[] W fun e w' => e = .returned (.bool true) ∧ Below W.heap.size W w') := hBg
  clear hSt hBg
  go_enter Tryz.func6, Tryz.ntmps6
  go_wp2_with fail
  refine HSt.out.mono ?_
  rintro e w1 ⟨rfl, k1⟩
  have K1 : Hid (Below w.heap.size w w1) := k1
  have K2 : Hid (F2 w ((w1.alloc (.cells #[.int .i64 3, .int .i64 0] 23)).alloc (.cells #[.int .i64 0, .int .i64 0] 23)) w1.heap.size (w1.heap.size + 1) 3 0 0 0) := F2.new k1 3 0 0 0
  clear k1 HSt
  by_cases h0 : n < 0
  · have d0 : decide (n < 0) = true := decide_eq_true h0
    go_wp2_with fail
    refine (F_any 3 0 _).mono ?_
    rintro e w3 ⟨rfl, k3⟩
    have K3 := K2.out.below k3
    have K4 : Hid (F2 w ((w3.setCell ⟨w1.heap.size + 1, 0, none⟩ (.int .i64 3)).setCell ⟨w1.heap.size + 1, 1, none⟩ (.int .i64 0)) w1.heap.size (w1.heap.size + 1) 3 0 3 0) := K3.set 3 0
    obtain ⟨v0, v1, v2, v3, v4⟩ := K3.v
    clear K3 k3 K2
    go_wp2_with fail
    refine (HBg.out _ K4.out.k).mono ?_
    rintro e w5 ⟨rfl, k5⟩
    have K5 := K4.out.below k5
    have K6 : Hid (Below w.heap.size w w5) := K5.k
    obtain ⟨u0, u1, u2, u3, u4⟩ := K5.v
    obtain ⟨t0, t1, t2, t3, t4⟩ := K5.f
    clear K5 k5 K4 v0 v1 v2 v3 v4
    go_wp2
    go_ret
    exact ⟨rfl, K6.out⟩
  · have d0 : decide (n < 0) = false := decide_eq_false h0
    have d1 : decide (200 < n) = true := decide_eq_true (by omega)
    go_wp2_with fail
    refine (F_any 3 0 _).mono ?_
    rintro e w3 ⟨rfl, k3⟩
    have K3 := K2.out.below k3
    have K4 : Hid (F2 w ((w3.setCell ⟨w1.heap.size + 1, 0, none⟩ (.int .i64 3)).setCell ⟨w1.heap.size + 1, 1, none⟩ (.int .i64 0)) w1.heap.size (w1.heap.size + 1) 3 0 3 0) := K3.set 3 0
    obtain ⟨v0, v1, v2, v3, v4⟩ := K3.v
    clear K3 k3 K2
    go_wp2_with fail
    refine (HBg.out _ K4.out.k).mono ?_
    rintro e w5 ⟨rfl, k5⟩
    have K5 := K4.out.below k5
    have K6 : Hid (Below w.heap.size w w5) := K5.k
    obtain ⟨u0, u1, u2, u3, u4⟩ := K5.v
    obtain ⟨t0, t1, t2, t3, t4⟩ := K5.f
    clear K5 k5 K4 v0 v1 v2 v3 v4
    go_wp2
    go_ret
    exact ⟨rfl, K6.out⟩
set_option maxHeartbeats 4000000 in
theorem sets_bad1 (n k : Int) (w : World) (hn : ¬ (n < 0 ∨ 200 < n)) (hk : k < 0 ∨ 200 < k) (hSt : Calls Tryz.prog 33 #[.int .i64 n, .int .i64 k] w fun e w' => e = .returned (.tuple #[.string ⟨#[]⟩, .agg #[.int .i64 3, .int .i64 1]]) ∧ Below w.heap.size w w') (hBg : ∀ W, Below w.heap.size w W → Calls Tryz.prog 8 #[] W fun e w' => e = .returned (.bool true) ∧ Below W.heap.size W w') :
    Calls Tryz.prog 6 #[.int .i64 n, .int .i64 k] w fun e w' => e = .returned (.bool true) ∧ Below w.heap.size w w' := by
  have HSt : Hid (Calls Tryz.prog 33 #[.int .i64 n, .int .i64 k] w fun e w' => e = .returned (.tuple #[.string ⟨#[]⟩, .agg #[.int .i64 3, .int .i64 1]]) ∧ Below w.heap.size w w') := hSt
  have HBg : Hid (∀ W, Below w.heap.size w W → Calls Tryz.prog 8 #[] W fun e w' => e = .returned (.bool true) ∧ Below W.heap.size W w') := hBg
  clear hSt hBg
  go_enter Tryz.func6, Tryz.ntmps6
  go_wp2_with fail
  refine HSt.out.mono ?_
  rintro e w1 ⟨rfl, k1⟩
  have K1 : Hid (Below w.heap.size w w1) := k1
  have K2 : Hid (F2 w ((w1.alloc (.cells #[.int .i64 3, .int .i64 1] 23)).alloc (.cells #[.int .i64 0, .int .i64 0] 23)) w1.heap.size (w1.heap.size + 1) 3 1 0 0) := F2.new k1 3 1 0 0
  clear k1 HSt
  have d0 : decide (n < 0) = false := decide_eq_false (by omega)
  have d1 : decide (200 < n) = false := decide_eq_false (by omega)
  by_cases h0 : k < 0
  · have d2 : decide (k < 0) = true := decide_eq_true h0
    go_wp2_with fail
    refine (F_any 3 1 _).mono ?_
    rintro e w3 ⟨rfl, k3⟩
    have K3 := K2.out.below k3
    have K4 : Hid (F2 w ((w3.setCell ⟨w1.heap.size + 1, 0, none⟩ (.int .i64 3)).setCell ⟨w1.heap.size + 1, 1, none⟩ (.int .i64 1)) w1.heap.size (w1.heap.size + 1) 3 1 3 1) := K3.set 3 1
    obtain ⟨v0, v1, v2, v3, v4⟩ := K3.v
    clear K3 k3 K2
    go_wp2_with fail
    refine (HBg.out _ K4.out.k).mono ?_
    rintro e w5 ⟨rfl, k5⟩
    have K5 := K4.out.below k5
    have K6 : Hid (Below w.heap.size w w5) := K5.k
    obtain ⟨u0, u1, u2, u3, u4⟩ := K5.v
    obtain ⟨t0, t1, t2, t3, t4⟩ := K5.f
    clear K5 k5 K4 v0 v1 v2 v3 v4
    go_wp2
    go_ret
    exact ⟨rfl, K6.out⟩
  · have d2 : decide (k < 0) = false := decide_eq_false h0
    have d3 : decide (200 < k) = true := decide_eq_true (by omega)
    go_wp2_with fail
    refine (F_any 3 1 _).mono ?_
    rintro e w3 ⟨rfl, k3⟩
    have K3 := K2.out.below k3
    have K4 : Hid (F2 w ((w3.setCell ⟨w1.heap.size + 1, 0, none⟩ (.int .i64 3)).setCell ⟨w1.heap.size + 1, 1, none⟩ (.int .i64 1)) w1.heap.size (w1.heap.size + 1) 3 1 3 1) := K3.set 3 1
    obtain ⟨v0, v1, v2, v3, v4⟩ := K3.v
    clear K3 k3 K2
    go_wp2_with fail
    refine (HBg.out _ K4.out.k).mono ?_
    rintro e w5 ⟨rfl, k5⟩
    have K5 := K4.out.below k5
    have K6 : Hid (Below w.heap.size w w5) := K5.k
    obtain ⟨u0, u1, u2, u3, u4⟩ := K5.v
    obtain ⟨t0, t1, t2, t3, t4⟩ := K5.f
    clear K5 k5 K4 v0 v1 v2 v3 v4
    go_wp2
    go_ret
    exact ⟨rfl, K6.out⟩
theorem st_pw {n k : Nat} (hn : n ≤ 200) (hk : k ≤ 200) : BN.st n k < pw 64 := by
  have h := BN.sm_pw hn hk (Nat.le_refl (k + 1))
  have e : BN.sm (BN.tm n k) (k + 1) = ((BN.fac k * BN.st n k : Nat) : Int) := BN.al_is n k
  rw [e, Int.natAbs_natCast] at h
  exact Nat.lt_of_le_of_lt (Nat.le_mul_of_pos_left _ (BN.fac_pos k)) h
set_option maxHeartbeats 4000000 in
theorem sets_ok (n k : Nat) (w : World) (hn : n ≤ 200) (hk : k ≤ 200) (hSt : Calls Tryz.prog 33 #[.int .i64 (n : Int), .int .i64 (k : Int)] w fun e w' => e = .returned (.tuple #[.string ⟨(Lib.decDigits (BN.st n k)).toArray⟩, .agg #[.int .i64 0, .int .i64 0]]) ∧ Below w.heap.size w w') (hBg : ∀ W, Below w.heap.size w W → Calls Tryz.prog 8 #[] W fun e w' => e = .returned (.bool true) ∧ Below W.heap.size W w') :
    Calls Tryz.prog 6 #[.int .i64 (n : Int), .int .i64 (k : Int)] w fun e w' => e = .returned (.bool true) ∧ Below w.heap.size w w' := by
  obtain ⟨S, hS⟩ : ∃ S : ByteArray, S = ⟨(Lib.decDigits (BN.st n k)).toArray⟩ := ⟨_, rfl⟩
  rw [← hS] at hSt
  have HSt : Hid (Calls Tryz.prog 33 #[.int .i64 (n : Int), .int .i64 (k : Int)] w fun e w' => e = .returned (.tuple #[.string S, .agg #[.int .i64 0, .int .i64 0]]) ∧ Below w.heap.size w w') := hSt
  have HBg : Hid (∀ W, Below w.heap.size w W → Calls Tryz.prog 8 #[] W fun e w' => e = .returned (.bool true) ∧ Below W.heap.size W w') := hBg
  have HSS : Hid (S = ⟨(Lib.decDigits (BN.st n k)).toArray⟩) := hS
  clear hSt hBg hS
  have d0 : decide ((n : Int) < 0) = false := decide_eq_false (by omega)
  have d1 : decide (200 < (n : Int)) = false := decide_eq_false (by omega)
  have d2 : decide ((k : Int) < 0) = false := decide_eq_false (by omega)
  have d3 : decide (200 < (k : Int)) = false := decide_eq_false (by omega)
  go_enter Tryz.func6, Tryz.ntmps6
  go_wp2_with fail
  refine HSt.out.mono ?_
  rintro e w1 ⟨rfl, k1⟩
  have K2 : Hid (F2 w ((w1.alloc (.cells #[.int .i64 0, .int .i64 0] 23)).alloc (.cells #[.int .i64 0, .int .i64 0] 23)) w1.heap.size (w1.heap.size + 1) 0 0 0 0) := F2.new k1 0 0 0 0
  clear k1 HSt
  go_wp2_with fail
  refine (HBg.out _ K2.out.k).mono ?_
  rintro e w5 ⟨rfl, k5⟩
  have K5 := K2.out.below k5
  have K6 : Hid (Below w.heap.size w w5) := K5.k
  obtain ⟨u0, u1, u2, u3, u4⟩ := K5.v
  obtain ⟨t0, t1, t2, t3, t4⟩ := K5.f
  clear K5 k5 K2 HBg
  go_wp2_with fail
  refine (SetsOf_any n k w5 hn hk).mono ?_
  rintro e w6 ⟨b, rfl, m6⟩
  have K7 : Hid (BigAt w6 b ((BN.st n k : Nat) : Int) ∧ Below w.heap.size w w6) := ⟨m6.2.1, K6.out.trans (m6.2.2.mono K6.out.size)⟩
  clear m6 K6 u0 u1 u2 u3 u4 t0 t1 t2 t3 t4
  go_wp2_with fail
  have hI := IString_any b ((BN.st n k : Nat) : Int) 64 w6 K7.out.1 (by rw [Int.natAbs_natCast]; exact st_pw hn hk) (by omega) (by omega)
  rw [decZ_nat, ← HSS.out] at hI
  refine hI.mono ?_
  rintro e w7 ⟨rfl, k7⟩
  have K8 : Hid (Below w.heap.size w w7) := K7.out.2.trans (k7.mono K7.out.2.size)
  clear k7 K7 hI
  go_wp2
  go_ret
  exact ⟨rfl, K8.out⟩

end Go.Proofs.YtnkjadpmigpneaaGreatDoor
end
