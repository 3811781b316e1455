/- The contract of GCD, of two numbers above 0. -/
import Derived.Test.YtknmfohipdjlpaaBigO
import Derived.Test.YtknmfohipdjlpaaMathA
import Derived.Deep.LoopGhost
set_option linter.unusedSimpArgs false
set_option linter.unusedVariables false
namespace Go.Proofs.Ytknmfohipdjlpaa
open Go.RowKit

theorem lt_pwA {x : Int} (h : x.natAbs ≤ 1000000000000000000) : x.natAbs < pw 2 := by rw [pw_two]; omega

theorem mulA_lt {x y : Int} {m n : Nat} (hx : x.natAbs < pw m) (hy : y.natAbs < pw n) : (x * y).natAbs < pw (m + n) := by
  rw [Int.natAbs_mul, pw_add]; exact Nat.mul_lt_mul'' hx hy

theorem two_new (w : World) : Slot ((w.alloc (.cells #[.bool false, .slice none 0 0] 49)).alloc (.cells #[.bool false, .slice none 0 0] 49)) w.heap.size ∧ Slot ((w.alloc (.cells #[.bool false, .slice none 0 0] 49)).alloc (.cells #[.bool false, .slice none 0 0] 49)) (w.heap.size + 1) ∧
    Below w.heap.size w ((w.alloc (.cells #[.bool false, .slice none 0 0] 49)).alloc (.cells #[.bool false, .slice none 0 0] 49)) ∧ ((w.alloc (.cells #[.bool false, .slice none 0 0] 49)).alloc (.cells #[.bool false, .slice none 0 0] 49)).heap.size = w.heap.size + 2 := by
  have h1 := slot_new w (.bool false) (.slice none 0 0)
  have h2 := slot_new (w.alloc (.cells #[.bool false, .slice none 0 0] 49)) (.bool false) (.slice none 0 0)
  refine ⟨h1.below (Below.alloc_self' _ _) (Nat.le_refl _), by simpa using h2, (Below.alloc_self' w _).trans ((Below.alloc_self' _ _).mono (by simp)), by simp⟩

set_option maxHeartbeats 2000000 in
set_option maxRecDepth 100000 in
theorem GCD_any (bz bx ba bb : Nat) (A B : Nat) (w : World) (hz : Slot w bz) (hx : Slot w bx) (hne : bz ≠ bx) (ha : BigAt w ba (A : Int)) (hb : BigAt w bb (B : Int)) (hA0 : 0 < A) (hB0 : 0 < B) (hA : A ≤ 1000000000000000000) (hB : B ≤ 1000000000000000000) :
    Calls Try.prog 42 #[.pointer (some ⟨bz, 0, none⟩), .pointer (some ⟨bx, 0, none⟩), .pointer none, .pointer (some ⟨ba, 0, none⟩), .pointer (some ⟨bb, 0, none⟩)] w fun e w' => ∃ s v : Int, e = .returned (.pointer (some ⟨bz, 0, none⟩)) ∧ BigAt w' bz (Nat.gcd A B : Int) ∧ BigAt w' bx s ∧ s.natAbs ≤ 1000000000000000000 ∧ s * (A : Int) + v * (B : Int) = (Nat.gcd A B : Int) ∧ Upd2 bz bx w w' := by
  obtain ⟨aa, al, ac, ca0, ca1, na, hal⟩ := ha.open
  obtain ⟨ba', bl, bc, cb0, cb1, nb, hbl⟩ := hb.open
  have t1 : 0 < al := hal.2 (by omega)
  have t2 : 0 < bl := hbl.2 (by omega)
  have u1 : ((al : Int) == 0) = false := beq_eq_false_iff_ne.2 (by omega)
  have u2 : ((bl : Int) == 0) = false := beq_eq_false_iff_ne.2 (by omega)
  have lz := hz.lt
  have lx := hx.lt
  have la := ha.lt
  have lb := hb.lt
  have HZ : Hid (Slot w bz) := hz
  have HX : Hid (Slot w bx) := hx
  have HA : Hid (BigAt w ba (A : Int)) := ha
  have HB : Hid (BigAt w bb (B : Int)) := hb
  rw [decide_eq_false (show ¬ (A : Int) < 0 by omega)] at ca0
  have CA0 : Hid (w.cell? ⟨ba, 0, none⟩ = some (.bool false)) := ca0
  clear hz hx ha hb na nb hal hbl cb0
  go_enter Try.func42, Try.ntmps42
  go_wp2_with fail
  refine (Abs_any w.heap.size ba (A : Int) 2 _ (slot_new w _ _) (HA.out.below (Below.alloc_self' w _) (Nat.le_refl _)) (lt_pwA (by omega)) (by omega)).mono ?_
  rw [show (((A : Int).natAbs : Nat) : Int) = (A : Int) by omega]
  rintro e w1 ⟨rfl, h1, u1'⟩
  have k1 : Below w.heap.size w w1 := (Below.alloc_self' w _).trans (u1'.below (by simp) (Nat.le_refl _))
  have z1 : w.heap.size < w1.heap.size := h1.lt
  have P1 : Hid (BigAt w1 w.heap.size (A : Int)) := h1
  have K1 : Hid (Below w.heap.size w w1) := k1
  have B1 : Hid (BigAt w1 bb (B : Int)) := HB.out.below k1 (Nat.le_refl _)
  clear h1 u1' k1
  go_wp2_with fail
  refine (Abs_any w1.heap.size bb (B : Int) 2 _ (slot_new w1 _ _) (B1.out.below (Below.alloc_self' w1 _) (Nat.le_refl _)) (lt_pwA (by omega)) (by omega)).mono ?_
  rw [show (((B : Int).natAbs : Nat) : Int) = (B : Int) by omega]
  rintro e w2 ⟨rfl, h2, u2'⟩
  have k2 : Below w1.heap.size w1 w2 := (Below.alloc_self' w1 _).trans (u2'.below (by simp) (Nat.le_refl _))
  have z2 : w1.heap.size < w2.heap.size := h2.lt
  have Q2 : Hid (BigAt w2 w1.heap.size (B : Int)) := h2
  have P2 : Hid (BigAt w2 w.heap.size (A : Int)) := P1.out.below k2 (Nat.le_refl _)
  have K2 : Hid (Below w.heap.size w w2) := K1.out.trans (k2.mono (by omega))
  clear h2 u2' k2 B1 P1 K1
  go_wp2_with fail
  refine (NewInt_any 1 _ (by omega) (by omega)).mono ?_
  rintro e w3 ⟨bs, rfl, p3, h3, k3⟩
  have z3 := k3.size
  have ls : bs < w3.heap.size := h3.lt
  have S3 : Hid (BigAt w3 bs 1) := h3
  have Q3 : Hid (BigAt w3 w1.heap.size (B : Int)) := Q2.out.below k3 (Nat.le_refl _)
  have P3 : Hid (BigAt w3 w.heap.size (A : Int)) := P2.out.below k3 (Nat.le_refl _)
  have K3 : Hid (Below w.heap.size w w3) := K2.out.trans (k3.mono (by omega))
  clear h3 k3 Q2 P2 K2
  go_wp2_with fail
  refine (NewInt_any 0 _ (by omega) (by omega)).mono ?_
  rintro e w4 ⟨bt, rfl, p4, h4, k4⟩
  have z4 := k4.size
  have S4 : Hid (BigAt w4 bs 1) := S3.out.below k4 (Nat.le_refl _)
  have T4 : Hid (BigAt w4 bt 0) := h4
  have Q4 : Hid (BigAt w4 w1.heap.size (B : Int)) := Q3.out.below k4 (Nat.le_refl _)
  have P4 : Hid (BigAt w4 w.heap.size (A : Int)) := P3.out.below k4 (Nat.le_refl _)
  have K4 : Hid (Below w.heap.size w w4) := K3.out.trans (k4.mono (by omega))
  clear h4 k4 S3 Q3 P3 K3
  go_wp2_with fail
  go_loopg [15, 16, 17, 18] B (fun k pv qv sv tv wx => ∃ (bp bq bs bt : Nat) (p q s t v nv : Int), pv = .pointer (some ⟨bp, 0, none⟩) ∧ qv = .pointer (some ⟨bq, 0, none⟩) ∧ sv = .pointer (some ⟨bs, 0, none⟩) ∧ tv = .pointer (some ⟨bt, 0, none⟩) ∧ w.heap.size ≤ bs ∧ w.heap.size ≤ bp ∧ w.heap.size ≤ bt ∧ w.heap.size ≤ bq ∧
    Hid (BigAt wx bp p ∧ BigAt wx bq q ∧ BigAt wx bs s ∧ BigAt wx bt t ∧ MathA.Eu (A : Int) (B : Int) p q s v t nv ∧ 0 ≤ p ∧ 0 ≤ q ∧ k = q.natAbs ∧ Below w.heap.size w wx ∧ w4.heap.size ≤ wx.heap.size))
  case atStart => exact ⟨w.heap.size, w1.heap.size, bs, bt, A, B, 1, 0, 0, 1, rfl, rfl, rfl, rfl, by omega, Nat.le_refl _, by omega, by omega, P4.out, Q4.out, S4.out, T4.out, MathA.eu_start _ _ (by omega) (by omega) (by omega), by omega, by omega, by simp, K4.out, Nat.le_refl _⟩
  case round =>
    clear P4 Q4 S4 T4 K4
    obtain ⟨bp, bq, bs, bt, p, q, s, t, v, nv, rfl, rfl, rfl, rfl, gs, gp, gt, gq, HR⟩ := hrel
    have HP : Hid (BigAt wr bp p) := HR.out.1
    have HQ : Hid (BigAt wr bq q) := HR.out.2.1
    have HS : Hid (BigAt wr bs s) := HR.out.2.2.1
    have HT : Hid (BigAt wr bt t) := HR.out.2.2.2.1
    have HEu : Hid (MathA.Eu (A : Int) (B : Int) p q s v t nv) := HR.out.2.2.2.2.1
    have hp0 : 0 ≤ p := HR.out.2.2.2.2.2.1
    have hq0 : 0 ≤ q := HR.out.2.2.2.2.2.2.1
    have HG : Hid (gk = q.natAbs) := HR.out.2.2.2.2.2.2.2.1
    have HK : Hid (Below w.heap.size w wr) := HR.out.2.2.2.2.2.2.2.2.1
    have zr : w4.heap.size ≤ wr.heap.size := HR.out.2.2.2.2.2.2.2.2.2
    clear HR
    obtain ⟨e1, e2, e3, e4, e5, e6⟩ := MathA.eu_bounds HEu.out
    have lq := HQ.out.lt
    have lp := HP.out.lt
    have ls' := HS.out.lt
    have lt' := HT.out.lt
    obtain ⟨qa, ql, qc, cq0, cq1, nq, hql⟩ := HQ.out.open
    by_cases hq : q = 0
    · subst hq
      obtain ⟨g1, g2, g3, g4⟩ := MathA.eu_end (by omega) HEu.out
      have hgc : Int.gcd (A : Int) (B : Int) = Nat.gcd A B := rfl
      rw [hgc] at g1
      have HPG : Hid (p = (Nat.gcd A B : Int)) := by show _ = _; omega
      have HLin : Hid (s * (A : Int) + v * (B : Int) = (Nat.gcd A B : Int)) := by show _ = _; rw [← g3]; exact HPG.out
      have hl : ql = 0 := by
        rcases Nat.eq_zero_or_pos ql with c | c
        · exact c
        · exact absurd (hql.1 c) (by simp)
      subst hl
      have ca : wr.cell? ⟨ba, 0, none⟩ = some (.bool false) := (HK.out.cell (p := ⟨ba, 0, none⟩) la).trans CA0.out
      have HAr : Hid (BigAt wr ba (A : Int)) := HA.out.below HK.out (Nat.le_refl _)
      have HBr : Hid (BigAt wr bb (B : Int)) := HB.out.below HK.out (Nat.le_refl _)
      clear g1 g2 g3 g4 hgc HEu HQ HT hql nq cq0
      go_wp2_with fail
      have k5 := Below.alloc_self' wr (.cells #[.bool false, .slice none 0 0] 49)
      refine (Mul_any wr.heap.size ba bs (A : Int) s 2 2 _ (slot_new wr _ _) (HAr.out.below k5 (Nat.le_refl _)) (HS.out.below k5 (Nat.le_refl _)) (lt_pwA (by omega)) (lt_pwA e3) (by omega) (by omega)).mono ?_
      rintro e w6 ⟨rfl, i6, u6⟩
      have z6 := u6.size
      simp at z6
      have K6 : Hid (Below wr.heap.size wr w6) := k5.trans (u6.below (by simp) (Nat.le_refl _))
      have U6 : Hid (BigAt w6 wr.heap.size ((A : Int) * s)) := i6
      clear i6 u6 k5
      go_wp2_with fail
      refine (Sub_any wr.heap.size bp wr.heap.size p ((A : Int) * s) 2 4 w6 U6.out.slot (HP.out.below K6.out (Nat.le_refl _)) U6.out (lt_pwA e1) (mulA_lt (lt_pwA (by omega)) (lt_pwA e3)) (by omega) (by omega)).mono ?_
      rintro e w7 ⟨rfl, i7, u7⟩
      have z7 := u7.size
      have K7 : Hid (Below wr.heap.size wr w7) := K6.out.trans (u7.below (by omega) (Nat.le_refl _))
      have U7 : Hid (BigAt w7 wr.heap.size (p - (A : Int) * s)) := i7
      have LB : Hid ((p - (A : Int) * s).natAbs < pw 5) := by
        have h1 : ((A : Int) * s).natAbs < pw 4 := mulA_lt (lt_pwA (by omega)) (lt_pwA e3)
        have h2 : p.natAbs < pw 2 := lt_pwA e1
        have h3 := pw_le (show 2 ≤ 4 by omega)
        have h4 : pw 5 = 4294967296 * pw 4 := rfl
        show _ < _
        omega
      clear i7 u7 U6 K6
      go_wp2_with fail
      refine (Quo_any wr.heap.size wr.heap.size bb (p - (A : Int) * s) (B : Int) 5 2 w7 U7.out.slot U7.out (HBr.out.below K7.out (Nat.le_refl _)) (by omega) LB.out (lt_pwA (by omega)) (by omega) (by omega)).mono ?_
      rintro e w8 ⟨rfl, i8, u8⟩
      have z8 := u8.size
      have K8 : Hid (Below wr.heap.size wr w8) := K7.out.trans (u8.below (by omega) (Nat.le_refl _))
      have KK8 : Hid (Below w.heap.size w w8) := HK.out.trans (K8.out.mono (by omega))
      have HX8 : Hid (Slot w8 bx) := HX.out.below KK8.out (Nat.le_refl _)
      have HZ8 : Hid (Slot w8 bz) := HZ.out.below KK8.out (Nat.le_refl _)
      clear i8 u8 U7 K7
      go_wp2_with fail
      refine (Set_any bx bs s 2 w8 HX8.out (HS.out.below K8.out (Nat.le_refl _)) (lt_pwA e3) (by omega)).mono ?_
      rintro e w9 ⟨rfl, i9, u9⟩
      have X9 : Hid (BigAt w9 bx s) := i9
      have U9 : Hid (Upd bx w8 w9) := u9
      have P9 : Hid (BigAt w9 bp p) := (HP.out.below K8.out (Nat.le_refl _)).upd u9 HX8.out (by omega)
      have HZ9 : Hid (Slot w9 bz) := HZ8.out.upd u9 hne
      clear i9 u9
      go_wp2_with fail
      refine (Set_any bz bp p 2 w9 HZ9.out P9.out (lt_pwA e1) (by omega)).mono ?_
      rw [HPG.out]
      rintro e w10 ⟨rfl, i10, u10⟩
      go_wp2
      go_ret
      exact ⟨s, v, rfl, i10, X9.out.upd u10 HZ9.out (Ne.symm hne), e3, HLin.out, ((Upd2.of_below KK8.out).trans (U9.out.two' bz)).trans (u10.two bx)⟩
    · have hl : 0 < ql := hql.2 (by omega)
      obtain ⟨f1, f2, f3, f4, f5, f6⟩ := MathA.eu_step (by omega) (by omega) HEu.out hq
      have em : p.tmod q = p - p.tdiv q * q := by rw [Int.tmod_def, Int.mul_comm]
      have HN : Hid (MathA.Eu (A : Int) (B : Int) q (p.tmod q) t nv (s - p.tdiv q * t) (v - p.tdiv q * nv)) := by rw [em]; exact f1
      have HLT : Hid ((p.tmod q).natAbs < q.natAbs) := by rw [em]; exact f2
      have HM0 : Hid (0 ≤ p.tmod q) := Int.tmod_nonneg q hp0
      have HD : Hid ((p.tdiv q).natAbs ≤ 1000000000000000000) := f3
      have HDT : Hid ((p.tdiv q * t).natAbs ≤ 1000000000000000000) := f5
      have HQ0 : Hid (q ≠ 0) := hq
      clear cq0 nq hql f1 f2 f3 f4 f5 f6 em hq HEu
      go_wp2_with fail
      obtain ⟨n1, n2, n3, n4⟩ := two_new wr
      obtain ⟨w5, hw5⟩ : ∃ w5, w5 = (wr.alloc (.cells #[.bool false, .slice none 0 0] 49)).alloc (.cells #[.bool false, .slice none 0 0] 49) := ⟨_, rfl⟩
      rw [← hw5] at n1 n2 n3 n4 ⊢
      have N1 : Hid (Slot w5 wr.heap.size) := n1
      have N2 : Hid (Slot w5 (wr.heap.size + 1)) := n2
      have N3 : Hid (Below wr.heap.size wr w5) := n3
      clear hw5 n1 n2 n3
      refine (QuoRem_any wr.heap.size bp bq (wr.heap.size + 1) p q 2 2 w5 N1.out N2.out (by omega) (HP.out.below N3.out (Nat.le_refl _)) (HQ.out.below N3.out (Nat.le_refl _)) HQ0.out (lt_pwA e1) (lt_pwA e2) (by omega) (by omega)).mono ?_
      rintro e w6 ⟨rfl, i6, j6, u6⟩
      have z6 := u6.size
      have k6 : Below wr.heap.size wr w6 := N3.out.trans ⟨u6.os, u6.tape, u6.output, u6.size, fun k hk => u6.block k (by omega) (by omega) (by omega)⟩
      have K6 : Hid (Below wr.heap.size wr w6) := k6
      have D6 : Hid (BigAt w6 wr.heap.size (p.tdiv q)) := i6
      have R6 : Hid (BigAt w6 (wr.heap.size + 1) (p.tmod q)) := j6
      clear i6 j6 u6 N1 N2 N3 k6
      go_wp2_with fail
      obtain ⟨n1, n2, n3, n5⟩ := two_new w6
      obtain ⟨w7, hw7⟩ : ∃ w7, w7 = (w6.alloc (.cells #[.bool false, .slice none 0 0] 49)).alloc (.cells #[.bool false, .slice none 0 0] 49) := ⟨_, rfl⟩
      rw [← hw7] at n1 n2 n3 n5 ⊢
      have N1 : Hid (Slot w7 w6.heap.size) := n1
      have N2 : Hid (Slot w7 (w6.heap.size + 1)) := n2
      have N3 : Hid (Below w6.heap.size w6 w7) := n3
      have K7 : Hid (Below wr.heap.size wr w7) := K6.out.trans (n3.mono (by omega))
      have T7 : Hid (BigAt w7 bt t) := HT.out.below K7.out (Nat.le_refl _)
      clear hw7 n1 n2 n3
      refine (Mul_any (w6.heap.size + 1) wr.heap.size bt (p.tdiv q) t 2 2 w7 N2.out (D6.out.below N3.out (Nat.le_refl _)) T7.out (lt_pwA HD.out) (lt_pwA e5) (by omega) (by omega)).mono ?_
      rintro e w8 ⟨rfl, i8, u8⟩
      have z8 := u8.size
      have M8 : Hid (BigAt w8 (w6.heap.size + 1) (p.tdiv q * t)) := i8
      have K8 : Hid (Below wr.heap.size wr w8) := K7.out.trans (u8.below (by omega) (by omega))
      have S8 : Hid (BigAt w8 bs s) := HS.out.below K8.out (Nat.le_refl _)
      have N8 : Hid (Slot w8 w6.heap.size) := N1.out.upd u8 (by omega)
      have R8 : Hid (BigAt w8 (wr.heap.size + 1) (p.tmod q)) := (R6.out.below N3.out (Nat.le_refl _)).upd u8 N2.out (by omega)
      clear i8 u8 N1 N2 N3 T7 K7 D6 R6 K6
      go_wp2_with fail
      refine (Sub_any w6.heap.size bs (w6.heap.size + 1) s (p.tdiv q * t) 2 2 w8 N8.out S8.out M8.out (lt_pwA e3) (lt_pwA HDT.out) (by omega) (by omega)).mono ?_
      rintro e w9 ⟨rfl, i9, u9⟩
      have z9 := u9.size
      have T9 : Hid (BigAt w9 w6.heap.size (s - p.tdiv q * t)) := i9
      have K9 : Hid (Below wr.heap.size wr w9) := K8.out.trans (u9.below (by omega) (by omega))
      have R9 : Hid (BigAt w9 (wr.heap.size + 1) (p.tmod q)) := R8.out.upd u9 N8.out (by omega)
      clear i9 u9 N8 S8 M8 K8 R8
      go_wp2
      go_roundg ((p.tmod q).natAbs)
      case measure => rw [HG.out]; exact HLT.out
      case rel =>
        exact ⟨bq, wr.heap.size + 1, bt, w6.heap.size, q, p.tmod q, t, s - p.tdiv q * t, nv, v - p.tdiv q * nv, rfl, rfl, rfl, rfl, gt, gq, by omega, by omega, HQ.out.below K9.out (Nat.le_refl _), R9.out, HT.out.below K9.out (Nat.le_refl _), T9.out, HN.out, hq0, HM0.out, rfl, HK.out.trans (K9.out.mono (by omega)), by omega⟩

end Go.Proofs.Ytknmfohipdjlpaa
