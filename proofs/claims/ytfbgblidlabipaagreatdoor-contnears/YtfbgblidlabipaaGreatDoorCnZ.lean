/- The reference: NearOf's walk. -/
import Derived.Test.YtfbgblidlabipaaGreatDoorJoinQ
set_option linter.unusedSimpArgs false
set_option linter.unusedVariables false
set_option maxRecDepth 100000
namespace Go.Proofs.YtfbgblidlabipaaGreatDoor
open Go.RowKit
open CnM CnS

theorem pw_up {x : Nat} {m n : Nat} (h : x < pw m) (hmn : m ≤ n) : x < pw n := Nat.lt_of_lt_of_le h (pw_le hmn)
/-- The sizes in NearOf. -/
theorem near_sz {a b : Int} {q k : Nat} (ha : a.natAbs ≤ 1000000000000000000) (hb0 : 0 < b) (hq : q ≤ 300) (hk : k ≤ 2) : (a * (q : Int)).natAbs < pw 3 ∧ (a * (q : Int) / b + (k : Int)).natAbs < pw 3 := by
  have h3 : pw 3 = 79228162514264337593543950336 := by decide
  have h1 : (a * (q : Int)).natAbs ≤ 1000000000000000000 * 300 := by
    rw [Int.natAbs_mul]
    exact Nat.mul_le_mul ha (by simpa using hq)
  have h2 := Int.natAbs_ediv_le_natAbs (a * (q : Int)) b
  omega

/-- What is nearer than all so far has a denominator up to b. -/
theorem no_better {a b q k P Q F G d e : Int} (h : Bs a b q k P Q F G) (hb : 0 < b) (hqb : b < q) (hd : 0 ≤ d) (hlt : d * G < F * e) : False := by
  have l := h.all a b ⟨by omega, .inl ⟨hqb, .inl (by rw [Int.mul_ediv_cancel _ (by omega)])⟩⟩
  have z : ds a b a b = 0 := by unfold ds gp; rw [Int.mul_comm b a]; simp
  have f := h.far
  have n := ds_pos a b P Q
  have q0 := h.Q0
  have d0 : ds a b P Q = 0 := by
    unfold Le at l
    rw [z, Int.zero_mul] at l
    rcases Int.lt_or_le 0 (ds a b P Q) with c | c
    · have := Int.mul_pos c hb
      omega
    · omega
  rw [d0, Int.zero_mul] at f
  have F0 : F = 0 := by
    rcases Int.mul_eq_zero.1 f with c | c
    · exact c
    · have := Int.mul_pos hb (show 0 < Q by omega)
      omega
  rw [F0, Int.zero_mul] at hlt
  have := Int.mul_nonneg hd (show 0 ≤ G by have := h.G0; omega)
  omega
theorem near_up {a b q k p : Int} (ha : a.natAbs ≤ 1000000000000000000) (hb : 0 < b) (hq : 1 ≤ q) (hqb : q ≤ b) (hk : k = 0 ∨ k = 1) (hp : p = a * q / b + k) : p.natAbs ≤ 1000000000000000002 := by
  have e := Int.mul_ediv_add_emod (a * q) b
  have m0 := Int.emod_nonneg (a * q) (show b ≠ 0 by omega)
  have m1 := Int.emod_lt_of_pos (a * q) hb
  generalize a * q / b = c at *
  have h1 : c ≤ 1000000000000000000 := by
    rcases Int.lt_or_le 1000000000000000000 c with h | h
    · exfalso
      have h2 := Int.mul_le_mul_of_nonneg_left (show (1000000000000000001 : Int) ≤ c by omega) (show 0 ≤ b by omega)
      have h3 : a * q ≤ 1000000000000000000 * q := Int.mul_le_mul_of_nonneg_right (by omega) (by omega)
      have h4 : 1000000000000000000 * q ≤ 1000000000000000000 * b := Int.mul_le_mul_of_nonneg_left hqb (by omega)
      omega
    · exact h
  have h5 : -1000000000000000001 ≤ c := by
    rcases Int.lt_or_le c (-1000000000000000001) with h | h
    · exfalso
      have h2 := Int.mul_le_mul_of_nonneg_left (show c ≤ (-1000000000000000002 : Int) by omega) (show 0 ≤ b by omega)
      have h3 : (-1000000000000000000) * q ≤ a * q := Int.mul_le_mul_of_nonneg_right (by omega) (by omega)
      have h4 : (-1000000000000000000) * b ≤ (-1000000000000000000) * q := Int.mul_le_mul_of_nonpos_left (by omega) hqb
      omega
    · exact h
  omega
theorem pw_mul3 {x y : Nat} (hx : x < pw 3) (hy : y < pw 3) : x * y < pw 6 := by
  have h : pw 6 = pw 3 * pw 3 := by decide
  rw [h]
  exact Nat.mul_lt_mul'' hx hy
theorem sub_sz {P Q p q : Int} {A B : Int} (hP : P.natAbs < pw 3) (hQ : Q.natAbs < pw 3) (hp : p.natAbs < pw 3) (hq : q.natAbs < pw 3) (hA : A.natAbs ≤ (P * q - p * Q).natAbs) (hB : B.natAbs ≤ (Q * q).natAbs) : A.natAbs < pw 16 ∧ B.natAbs < pw 16 := by
  have h1 := pw_mul3 hP hq
  have h2 := pw_mul3 hp hQ
  have h3 := pw_mul3 hQ hq
  rw [← Int.natAbs_mul] at h1 h2 h3
  have h6 : pw 6 + pw 6 ≤ pw 16 := by decide
  omega


set_option maxHeartbeats 8000000 in
theorem NearOf_any (a b : Int) (most : Nat) (w : World) (ha : a.natAbs ≤ 1000000000000000000) (hb0 : 0 < b) (hb : b ≤ 1000000000000000000) (hm1 : 1 ≤ most) (hm : most ≤ 300) :
    Calls Tryz.prog 13 #[.int .i64 a, .int .i64 b, .int .i64 (most : Int)] w fun e w' => ∃ P Q : Int, e = .returned (.agg #[.int .i64 P, .int .i64 Q]) ∧ BestF a b (most : Int) P Q ∧ Below w.heap.size w w' := by
  have HB0 : Hid (0 < b) := hb0
  go_enter Tryz.func13, Tryz.ntmps13
  go_wp2_with fail
  refine (NewRat_pos a b _ ha hb0 hb).mono ?_
  rintro e w1 ⟨bx, Px, Qx, rfl, rx, ex, bx1, bx2, lx, k1⟩
  have HN1 : Hid (Nf a b w w1 bx Px Qx 1 0 (.pointer none)) := by
    have c0 : Cl w.heap.size [.int .i64 0, .int .i64 0] 23 w1 := ((Cl.new [.int .i64 0, .int .i64 0] 23 w).alloc _).below k1
    have c1 : Cl (w.heap.size + 1) [.int .i64 0, .int .i64 0] 23 w1 := by
      have := Cl.new [.int .i64 0, .int .i64 0] 23 (w.alloc (.cells #[.int .i64 0, .int .i64 0] 23))
      rw [World.size_alloc] at this
      exact this.below k1
    exact ⟨(((Below.refl _ _).alloc (Nat.le_refl _) _).alloc (by simp) _).trans (k1.mono (by simp; omega)), rx, c0, .inl ⟨rfl, rfl, rfl, c1⟩⟩
  have HX : Hid (Px * b = a * Qx ∧ Px.natAbs < pw 3 ∧ Qx.natAbs < pw 3 ∧ 0 < Qx) := by
    have h2 : pw 2 ≤ pw 3 := pw_le (by omega)
    rw [pw_two] at h2
    exact ⟨ex, by omega, by omega, rx.pos⟩
  clear rx ex bx1 bx2 lx k1
  go_wp2
  go_loopg [8, 10, 11, 12, 13, 14] most (fun n v8 v10 _ _ _ _ wx => ∃ q : Nat, v10 = .int .i64 (q : Int) ∧ 1 ≤ q ∧ q + n = most + 1 ∧ Hid (Nf a b w wx bx Px Qx q 0 v8))
  case atStart => exact ⟨1, rfl, by omega, by omega, HN1.out⟩
  case round =>
    clear HN1
    obtain ⟨q, rfl, hq1, hqn, HN⟩ := hrel
    by_cases hqm : q ≤ most
    · have HSz : Hid (∀ k : Nat, k ≤ 2 → (a * (q : Int)).natAbs < pw 3 ∧ (a * (q : Int) / b + (k : Int)).natAbs < pw 3) := fun k hk => near_sz ha HB0.out (by omega) hk
      have B0 : Bk wr ((wr.alloc (.cells #[.bool false, .slice none 0 0] 45)).alloc (.cells #[.bool false, .slice none 0 0] 45)) wr.heap.size [] [wr.heap.size + 1, wr.heap.size] := by
        have := ((show Bk wr wr wr.heap.size [] [] from ⟨Below.refl _ _, Nat.le_refl _, fun p hp => (by cases hp), fun c hc => (by cases hc)⟩).alloc (.bool false) (.slice none 0 0)).alloc (.bool false) (.slice none 0 0)
        rw [World.size_alloc] at this; exact this
      have HB1 : Hid (Bk wr ((wr.alloc (.cells #[.bool false, .slice none 0 0] 45)).alloc (.cells #[.bool false, .slice none 0 0] 45)) wr.heap.size [] [wr.heap.size + 1, wr.heap.size]) := B0
      clear B0
      go_wp2_with fail
      refine (B_any a _ (by omega) (by omega)).mono ?_
      rintro e w2 ⟨b2, rfl, m2⟩
      have HB2 : Hid (Bk wr w2 wr.heap.size [(b2, a)] [wr.heap.size + 1, wr.heap.size] ∧ wr.heap.size + 2 ≤ b2) := ⟨HB1.out.made m2, by have := m2.1; simp at this; omega⟩
      clear m2
      go_wp2_with fail
      refine (B_any (q : Int) w2 (by omega) (by omega)).mono ?_
      rintro e w3 ⟨b3, rfl, m3⟩
      have HB3 : Hid (Bk wr w3 wr.heap.size [(b3, (q : Int)), (b2, a)] [wr.heap.size + 1, wr.heap.size] ∧ wr.heap.size + 2 ≤ b3) := ⟨HB2.out.1.made m3, by have h1 := m3.1; have h2 := (HB2.out.1.fr (wr.heap.size + 1) (by simp)).lt; omega⟩
      clear m3
      go_wp2_with fail
      refine (Mul_any (wr.heap.size + 1) b2 b3 a (q : Int) 3 3 w3 (HB3.out.1.fr _ (by simp)) (HB3.out.1.big (b2, a) (by simp)) (HB3.out.1.big (b3, (q : Int)) (by simp)) (pw_up (show a.natAbs < pw 2 by rw [pw_two]; omega) (by omega)) (pw_up (show ((q : Int)).natAbs < pw 2 by rw [pw_two]; omega) (by omega)) (by omega) (by omega)).mono ?_
      rintro e w4 ⟨rfl, h4, u4⟩
      have HB4 : Hid (Bk wr w4 wr.heap.size [(wr.heap.size + 1, a * (q : Int))] [wr.heap.size]) := HB3.out.1.upd (HB3.out.1.fr _ (by simp)) (by omega) h4 u4 (by simp) (by simp)
      clear h4 u4
      go_wp2_with fail
      refine (B_any b w4 (by omega) (by omega)).mono ?_
      rintro e w5 ⟨b5, rfl, m5⟩
      have HB5 : Hid (Bk wr w5 wr.heap.size [(b5, b), (wr.heap.size + 1, a * (q : Int))] [wr.heap.size] ∧ wr.heap.size < b5) := ⟨HB4.out.made m5, by have h1 := m5.1; have h2 := (HB4.out.fr wr.heap.size (by simp)).lt; omega⟩
      clear m5
      go_wp2_with fail
      refine (Div_any wr.heap.size (wr.heap.size + 1) b5 (a * (q : Int)) b 3 3 w5 (HB5.out.1.fr _ (by simp)) (HB5.out.1.big (wr.heap.size + 1, a * (q : Int)) (by simp)) (HB5.out.1.big (b5, b) (by simp)) (by omega) (HSz.out 0 (by omega)).1 (pw_up (show b.natAbs < pw 2 by rw [pw_two]; omega) (by omega)) (by omega) (by omega)).mono ?_
      rintro e w6 ⟨rfl, h6, u6⟩
      have HN6 : Hid (Nf a b w w6 bx Px Qx q 0 u8 ∧ BigAt w6 wr.heap.size (a * (q : Int) / b + ((0 : Nat) : Int))) := by
        refine ⟨HN.out.below (HB5.out.1.bel.trans (u6.below HB5.out.1.le (Nat.le_refl _))), ?_⟩
        simpa using h6
      clear h6 u6
      go_wp2
      obtain ⟨n1, hn1⟩ : ∃ n1, n1 = gk := ⟨_, rfl⟩
      go_loopg [8, 11, 12, 13, 14] 2 (fun n v8 v11 v12 _ _ wx => ∃ (k z : Nat), v12 = .int .i64 (k : Int) ∧ v11 = .pointer (some ⟨z, 0, none⟩) ∧ k + n = 2 ∧ Hid (Nf a b w wx bx Px Qx q k v8 ∧ BigAt wx z (a * (q : Int) / b + (k : Int))))
      case atStart => exact ⟨0, wr.heap.size, rfl, rfl, rfl, HN6.out.1, HN6.out.2⟩
      case round =>
        clear HN6 HB5 HB4 HB3 HB2 HB1 HN
        obtain ⟨k, z, rfl, rfl, hk2, HN⟩ := hrel
        by_cases hk : k < 2
        · have hkk : k = 0 ∨ k = 1 := by omega
          have HSk := HSz.out k (by omega)
          obtain ⟨p, hp⟩ : ∃ p, p = a * (q : Int) / b + (k : Int) := ⟨_, rfl⟩
          rw [← hp] at HSk
          have HNp : Hid (Nf a b w wr bx Px Qx q k u8 ∧ BigAt wr z p) := by rw [hp]; exact HN.out
          have HP : Hid (p = a * (q : Int) / b + (k : Int) ∧ p.natAbs < pw 3) := ⟨hp, HSk.2⟩
          clear HN hp HSk
          have R0 : Rk wr (wr.alloc (.cells #[.bool false, .slice none 0 0, .bool false, .slice none 0 0] 103)) wr.heap.size [] [wr.heap.size] := (show Rk wr wr wr.heap.size [] [] from ⟨Below.refl _ _, Nat.le_refl _, fun p hp => (by cases hp), fun c hc => (by cases hc)⟩).alloc _ _ _ _
          have HR0 : Hid (Rk wr (wr.alloc (.cells #[.bool false, .slice none 0 0, .bool false, .slice none 0 0] 103)) wr.heap.size [] [wr.heap.size]) := R0
          clear R0
          go_wp2_with fail
          refine (B_any (q : Int) _ (by omega) (by omega)).mono ?_
          rintro e w2 ⟨b2, rfl, m2⟩
          have HS2 : Hid (Rk wr w2 wr.heap.size [] [wr.heap.size] ∧ BigAt w2 z p ∧ Nf a b w w2 bx Px Qx q k u8 ∧ BigAt w2 b2 (q : Int)) := by
            have k2 := HR0.out.below m2.2.2
            exact ⟨k2, HNp.out.2.below k2.bel (Nat.le_refl _), HNp.out.1.below k2.bel, m2.2.1⟩
          clear m2 HR0
          go_wp2_with fail
          refine (SetFrac_pos wr.heap.size z 0 b2 0 p (q : Int) 3 w2 (HS2.out.1.fr _ (by simp)) HS2.out.2.1.at HS2.out.2.2.2.at (by omega) HP.out.2 (pw_up (show ((q : Int)).natAbs < pw 2 by rw [pw_two]; omega) (by omega)) (by omega)).mono ?_
          rintro e w3 ⟨rfl, Py, Qy, r1, r2, r3, r4, r5, r6, u3⟩
          have HS3 : Hid (Rk wr w3 wr.heap.size [(wr.heap.size, Py, Qy)] []) := HS2.out.1.upd (HS2.out.1.fr _ (by simp)) (Nat.le_refl _) ⟨r1, r2, r4⟩ u3 (by simp) (by simp)
          have HNum : Hid (Py * (q : Int) = p * Qy ∧ Nat.gcd Py.natAbs Qy.natAbs = 1 ∧ Py.natAbs ≤ p.natAbs ∧ Qy.natAbs ≤ 300 ∧ 0 < Qy ∧ Qy ≤ (q : Int)) := ⟨r3, r4, r5, by omega, r2, by omega⟩
          have HQy : Hid (Qy.natAbs < pw 3) := pw_up (show Qy.natAbs < pw 2 by rw [pw_two]; omega) (by omega)
          have HPy3 : Hid (Py.natAbs < pw 3) := Nat.lt_of_le_of_lt r5 HP.out.2
          clear r1 r2 r3 r4 r5 r6 u3 HS2
          have HS4 : Hid (Rk wr (w3.alloc (.cells #[.bool false, .slice none 0 0, .bool false, .slice none 0 0] 103)) wr.heap.size [(wr.heap.size, Py, Qy)] [w3.heap.size]) := HS3.out.alloc _ _ _ _
          have HZ3 : Hid (wr.heap.size < w3.heap.size) := (HS3.out.rat (wr.heap.size, Py, Qy) (by simp)).at'.num.lt
          go_wp2_with fail
          refine (RSub_any w3.heap.size bx wr.heap.size Px Qx Py Qy 3 _ (HS4.out.fr _ (by simp)) (HNp.out.1.below HS4.out.bel).x (HS4.out.rat (wr.heap.size, Py, Qy) (by simp)) ⟨HX.out.2.1, HX.out.2.2.1, HPy3.out, HQy.out, by omega⟩).mono ?_
          rintro e w4 ⟨rfl, A, D, r7, e7, b7, c7, u7⟩
          have HAD : Hid (A.natAbs < pw 16 ∧ D.natAbs < pw 16) := sub_sz HX.out.2.1 HX.out.2.2.1 HPy3.out HQy.out b7 c7
          have HDs : Hid ((A.natAbs : Int) * (b * (q : Int)) = ds a b p (q : Int) * D ∧ 0 < D) := ⟨dist_eq HX.out.2.2.2 HNum.out.2.2.2.2.1 r7.pos HB0.out (by omega) HX.out.1 HNum.out.1 e7, r7.pos⟩
          have HR7 : Hid (Rt w4 w3.heap.size A D ∧ Rk wr w4 wr.heap.size [(w3.heap.size, A, D), (wr.heap.size, Py, Qy)] []) := by
            have z3 := HZ3.out
            exact ⟨r7, HS4.out.upd (HS4.out.fr _ (by simp)) (by omega) r7 u7 (by simp; omega) (by simp)⟩
          clear r7 e7 b7 c7 u7 HS4
          go_wp2_with fail
          refine (RAbs_same w3.heap.size A D 16 w4 HR7.out.1 HAD.out.1 HAD.out.2 (by omega)).mono ?_
          rintro e w5 ⟨rfl, r8, v8⟩
          have HS5 : Hid (Rk wr w5 wr.heap.size [(w3.heap.size, (A.natAbs : Int), D), (wr.heap.size, Py, Qy)] [] ∧ BigAt w5 z p ∧ Nf a b w w5 bx Px Qx q k u8) := by
            have z3 := HZ3.out
            have k5 : Rk wr w5 wr.heap.size [(w3.heap.size, (A.natAbs : Int), D), (wr.heap.size, Py, Qy)] [] := HR7.out.2.upd HR7.out.1.at'.rslot (by omega) r8 v8 (by simp; omega) (by simp)
            exact ⟨k5, HNp.out.2.below k5.bel (Nat.le_refl _), HNp.out.1.below k5.bel⟩
          clear r8 v8 HR7 HS3 HNp
          rcases HS5.out.2.2.st with ⟨hq1', hk0, hu8, hcl⟩ | ⟨P, Q, F, G, bf, hu8, hRt, hF, hG, hcl, hBs, hlt⟩
          · -- the first one
            have HPy : Hid (Py.natAbs ≤ 1000000000000000002) := Nat.le_trans HNum.out.2.2.1 (near_up ha HB0.out (by omega) (by have := HB0.out; omega) (by omega) HP.out.1)
            have HBs : Hid (Bs a b (q : Int) ((k : Int) + 1) Py Qy (A.natAbs : Int) D) := by
              subst hq1'
              subst hk0
              have hp := HP.out.1
              have hP := HNum.out.1
              have hD := HDs.out.1
              have hQ := HNum.out.2.2.2.2.2
              simp only [Int.natCast_one, Int.natCast_zero] at hp hP hD hQ
              show Bs _ _ _ _ _ _ _ _
              simpa using Bs.first HB0.out hp HNum.out.2.2.2.2.1 HDs.out.2 hP HNum.out.2.1 hQ hD
            clear hq1' hk0 hcl
            subst hu8
            go_wp2_with fail
            refine (Num_any wr.heap.size w5 (HS5.out.1.rat (wr.heap.size, Py, Qy) (by simp)).at'.num.lt).mono ?_
            rintro e w6 ⟨rfl, hw6⟩
            rw [hw6]
            clear hw6 w6
            go_wp2_with fail
            refine (Int64_at 0 wr.heap.size Py w5 (HS5.out.1.rat (wr.heap.size, Py, Qy) (by simp)).at'.num (by have := HPy.out; omega)).mono ?_
            rintro e w6 ⟨rfl, q6, hw6⟩
            have HS6 : Hid (Rk wr w6 wr.heap.size [(w3.heap.size, (A.natAbs : Int), D), (wr.heap.size, Py, Qy)] [] ∧ BigAt w6 z p ∧ Nf a b w w6 bx Px Qx q k (.pointer none)) := by
              have kk : Below w5.heap.size w5 w6 := by rw [hw6]; exact below_drewN' (Below.refl _ _)
              exact ⟨HS5.out.1.below kk, HS5.out.2.1.below kk (Nat.le_refl _), HS5.out.2.2.below kk⟩
            clear hw6
            go_wp2_with fail
            refine (Denom_pos wr.heap.size Py Qy 3 w6 (HS6.out.1.rat (wr.heap.size, Py, Qy) (by simp)).at' (HS6.out.1.rat (wr.heap.size, Py, Qy) (by simp)).pos HQy.out (by omega)).mono ?_
            rintro e w7 ⟨b7, rfl, m7⟩
            have HS7 : Hid (Rk wr w7 wr.heap.size [(w3.heap.size, (A.natAbs : Int), D), (wr.heap.size, Py, Qy)] [] ∧ BigAt w7 z p ∧ Nf a b w w7 bx Px Qx q k (.pointer none) ∧ BigAt w7 b7 Qy) := ⟨HS6.out.1.below m7.2.2, HS6.out.2.1.below m7.2.2 (Nat.le_refl _), HS6.out.2.2.below m7.2.2, m7.2.1⟩
            clear m7
            go_wp2_with fail
            refine (Int64_any b7 Qy w7 HS7.out.2.2.2 (by have := HNum.out.2.2.2.1; omega)).mono ?_
            rintro e w8 ⟨rfl, q8, hw8⟩
            have HS8 : Hid (Rk wr w8 wr.heap.size [(w3.heap.size, (A.natAbs : Int), D), (wr.heap.size, Py, Qy)] [] ∧ BigAt w8 z p ∧ Nf a b w w8 bx Px Qx q k (.pointer none)) := by
              have kk : Below w7.heap.size w7 w8 := by rw [hw8]; exact below_drewN' (Below.refl _ _)
              exact ⟨HS7.out.1.below kk, HS7.out.2.1.below kk (Nat.le_refl _), HS7.out.2.2.1.below kk⟩
            clear hw8
            obtain ⟨x1, x2, CB⟩ := HS8.out.2.2.box
            have y1 := CB.cell 0
            have y2 := CB.cell 1
            have y3 := CB.frozen 0
            have y4 := CB.frozen 1
            simp only [List.getElem?_cons_zero, List.getElem?_cons_succ] at y1 y2
            have HN9 : Hid (Nf a b w ((w8.setCell ⟨w.heap.size + 1, 0, none⟩ (.int .i64 Py)).setCell ⟨w.heap.size + 1, 1, none⟩ (.int .i64 Qy)) bx Px Qx q (k + 1) (.pointer (some ⟨w3.heap.size, 0, none⟩)) ∧ BigAt ((w8.setCell ⟨w.heap.size + 1, 0, none⟩ (.int .i64 Py)).setCell ⟨w.heap.size + 1, 1, none⟩ (.int .i64 Qy)) z p) := by
              refine ⟨HS8.out.2.2.put (HS8.out.1.rat (w3.heap.size, (A.natAbs : Int), D) (by simp)) (by rw [Int.natAbs_natCast]; exact HAD.out.1) HAD.out.2 HBs.out, HS8.out.2.1.updF (z := w.heap.size + 1) ?_ CB⟩
              exact Upd.setCell (o := 1) (Upd.setCell (o := 0) (Upd.refl _ w8) _) _
            clear CB
            obtain ⟨w9, hw9⟩ : ∃ w9, w9 = (w8.setCell ⟨w.heap.size + 1, 0, none⟩ (.int .i64 Py)).setCell ⟨w.heap.size + 1, 1, none⟩ (.int .i64 Qy) := ⟨_, rfl⟩
            go_upto_region 17 with fail
            rw [← hw9]
            rw [← hw9] at HN9
            clear hw9 y1 y2 y3 y4
            go_wp2_with fail
            have HBk : Hid (Bk w9 (w9.alloc (.cells #[.bool false, .slice none 0 0] 45)) w9.heap.size [] [w9.heap.size]) := (show Bk w9 w9 w9.heap.size [] [] from ⟨Below.refl _ _, Nat.le_refl _, fun p hp => (by cases hp), fun c hc => (by cases hc)⟩).alloc _ _
            refine (B_any 1 _ (by omega) (by omega)).mono ?_
            rintro e y2 ⟨c2, rfl, m2⟩
            have HB2 : Hid (Bk w9 y2 w9.heap.size [(c2, 1)] [w9.heap.size]) := HBk.out.made m2
            clear m2 HBk
            go_wp2_with fail
            refine (Add_any w9.heap.size z c2 p 1 3 3 y2 (HB2.out.fr _ (by simp)) (HN9.out.2.below HB2.out.bel (Nat.le_refl _)) (HB2.out.big (c2, 1) (by simp)) HP.out.2 (by decide) (by omega) (by omega)).mono ?_
            rintro e y3 ⟨rfl, h3, u3⟩
            have HN10 : Hid (Nf a b w y3 bx Px Qx q (k + 1) (.pointer (some ⟨w3.heap.size, 0, none⟩)) ∧ BigAt y3 w9.heap.size (a * (q : Int) / b + ((k + 1 : Nat) : Int))) := by
              refine ⟨HN9.out.1.below (HB2.out.bel.trans (u3.below HB2.out.le (Nat.le_refl _))), ?_⟩
              have h4 := h3
              rw [HP.out.1] at h4
              rw [Int.natCast_add, ← Int.add_assoc]
              exact h4
            clear h3 u3 HB2
            go_wp2
            go_roundg (gk - 1)
            case rel => exact ⟨k + 1, w9.heap.size, by simp, rfl, by omega, HN10.out.1, HN10.out.2⟩
            case measure => omega
          · have HRt : Hid (Rt w5 bf F G ∧ F.natAbs < pw 16 ∧ G.natAbs < pw 16 ∧ Cl (w.heap.size + 1) [.int .i64 P, .int .i64 Q] 23 w5 ∧ Bs a b (q : Int) (k : Int) P Q F G) := ⟨hRt, hF, hG, hcl, hBs⟩
            clear hRt hF hG hcl hBs hlt
            subst hu8
            obtain ⟨C, hC⟩ : ∃ C, C = cmpZ ((A.natAbs : Int) * G) (F * D) := ⟨_, rfl⟩
            have HC : Hid (C = cmpZ ((A.natAbs : Int) * G) (F * D)) := hC
            have hCb := cmpZ_bounds ((A.natAbs : Int) * G) (F * D)
            rw [← hC] at hCb
            go_wp2_with fail
            refine (RCmp_any w3.heap.size bf (A.natAbs : Int) D F G 16 w5 (HS5.out.1.rat (w3.heap.size, (A.natAbs : Int), D) (by simp)) HRt.out.1 ⟨by rw [Int.natAbs_natCast]; exact HAD.out.1, HAD.out.2, HRt.out.2.1, HRt.out.2.2.1, by omega⟩).mono ?_
            rintro e v5 ⟨rfl, k5⟩
            rw [← hC]
            have HS5x : Hid (Rk wr v5 wr.heap.size [(w3.heap.size, (A.natAbs : Int), D), (wr.heap.size, Py, Qy)] [] ∧ BigAt v5 z p ∧ Nf a b w v5 bx Px Qx q k (.pointer (some ⟨bf, 0, none⟩))) := ⟨HS5.out.1.below k5, HS5.out.2.1.below k5 (Nat.le_refl _), HS5.out.2.2.below k5⟩
            have HRt' : Hid (Rt v5 bf F G ∧ F.natAbs < pw 16 ∧ G.natAbs < pw 16 ∧ Cl (w.heap.size + 1) [.int .i64 P, .int .i64 Q] 23 v5 ∧ Bs a b (q : Int) (k : Int) P Q F G) := ⟨HRt.out.1.below k5, HRt.out.2.1, HRt.out.2.2.1, HRt.out.2.2.2.1.below k5, HRt.out.2.2.2.2⟩
            clear HS5 HRt k5 hC
            have HRt := HRt'
            clear HRt'
            by_cases hlt : C < 0
            · have hlt2 : (A.natAbs : Int) * G < F * D := by
                have := HC.out
                unfold cmpZ at this
                split at this
                · assumption
                · split at this <;> omega
              have hqb : (q : Int) ≤ b := by
                rcases Int.lt_or_le b (q : Int) with c | c
                · exact absurd (no_better HRt.out.2.2.2.2 HB0.out c (by omega) hlt2) id
                · exact c
              have HPy : Hid (Py.natAbs ≤ 1000000000000000002) := Nat.le_trans HNum.out.2.2.1 (near_up ha HB0.out (by omega) hqb (by omega) HP.out.1)
              have HBs : Hid (Bs a b (q : Int) ((k : Int) + 1) Py Qy (A.natAbs : Int) D) := Bs.better HRt.out.2.2.2.2 HB0.out (by omega) (by omega) HP.out.1 HNum.out.2.2.2.2.1 HDs.out.2 HNum.out.1 HNum.out.2.1 HNum.out.2.2.2.2.2 HDs.out.1 hlt2
              clear hlt2 hqb
              go_wp2_with fail
              refine (Num_any wr.heap.size v5 (HS5x.out.1.rat (wr.heap.size, Py, Qy) (by simp)).at'.num.lt).mono ?_
              rintro e w6 ⟨rfl, hw6⟩
              rw [hw6]
              clear hw6 w6
              go_wp2_with fail
              refine (Int64_at 0 wr.heap.size Py v5 (HS5x.out.1.rat (wr.heap.size, Py, Qy) (by simp)).at'.num (by have := HPy.out; omega)).mono ?_
              rintro e w6 ⟨rfl, q6, hw6⟩
              have HS6 : Hid (Rk wr w6 wr.heap.size [(w3.heap.size, (A.natAbs : Int), D), (wr.heap.size, Py, Qy)] [] ∧ BigAt w6 z p ∧ Nf a b w w6 bx Px Qx q k (.pointer (some ⟨bf, 0, none⟩))) := by
                have kk : Below v5.heap.size v5 w6 := by rw [hw6]; exact below_drewN' (Below.refl _ _)
                exact ⟨HS5x.out.1.below kk, HS5x.out.2.1.below kk (Nat.le_refl _), HS5x.out.2.2.below kk⟩
              clear hw6
              go_wp2_with fail
              refine (Denom_pos wr.heap.size Py Qy 3 w6 (HS6.out.1.rat (wr.heap.size, Py, Qy) (by simp)).at' (HS6.out.1.rat (wr.heap.size, Py, Qy) (by simp)).pos HQy.out (by omega)).mono ?_
              rintro e w7 ⟨b7, rfl, m7⟩
              have HS7 : Hid (Rk wr w7 wr.heap.size [(w3.heap.size, (A.natAbs : Int), D), (wr.heap.size, Py, Qy)] [] ∧ BigAt w7 z p ∧ Nf a b w w7 bx Px Qx q k (.pointer (some ⟨bf, 0, none⟩)) ∧ BigAt w7 b7 Qy) := ⟨HS6.out.1.below m7.2.2, HS6.out.2.1.below m7.2.2 (Nat.le_refl _), HS6.out.2.2.below m7.2.2, m7.2.1⟩
              clear m7
              go_wp2_with fail
              refine (Int64_any b7 Qy w7 HS7.out.2.2.2 (by have := HNum.out.2.2.2.1; omega)).mono ?_
              rintro e w8 ⟨rfl, q8, hw8⟩
              have HS8 : Hid (Rk wr w8 wr.heap.size [(w3.heap.size, (A.natAbs : Int), D), (wr.heap.size, Py, Qy)] [] ∧ BigAt w8 z p ∧ Nf a b w w8 bx Px Qx q k (.pointer (some ⟨bf, 0, none⟩))) := by
                have kk : Below w7.heap.size w7 w8 := by rw [hw8]; exact below_drewN' (Below.refl _ _)
                exact ⟨HS7.out.1.below kk, HS7.out.2.1.below kk (Nat.le_refl _), HS7.out.2.2.1.below kk⟩
              clear hw8
              obtain ⟨x1, x2, CB⟩ := HS8.out.2.2.box
              have y1 := CB.cell 0
              have y2 := CB.cell 1
              have y3 := CB.frozen 0
              have y4 := CB.frozen 1
              simp only [List.getElem?_cons_zero, List.getElem?_cons_succ] at y1 y2
              have HN9 : Hid (Nf a b w ((w8.setCell ⟨w.heap.size + 1, 0, none⟩ (.int .i64 Py)).setCell ⟨w.heap.size + 1, 1, none⟩ (.int .i64 Qy)) bx Px Qx q (k + 1) (.pointer (some ⟨w3.heap.size, 0, none⟩)) ∧ BigAt ((w8.setCell ⟨w.heap.size + 1, 0, none⟩ (.int .i64 Py)).setCell ⟨w.heap.size + 1, 1, none⟩ (.int .i64 Qy)) z p) := by
                refine ⟨HS8.out.2.2.put (HS8.out.1.rat (w3.heap.size, (A.natAbs : Int), D) (by simp)) (by rw [Int.natAbs_natCast]; exact HAD.out.1) HAD.out.2 HBs.out, HS8.out.2.1.updF (z := w.heap.size + 1) ?_ CB⟩
                exact Upd.setCell (o := 1) (Upd.setCell (o := 0) (Upd.refl _ w8) _) _
              clear CB
              obtain ⟨w9, hw9⟩ : ∃ w9, w9 = (w8.setCell ⟨w.heap.size + 1, 0, none⟩ (.int .i64 Py)).setCell ⟨w.heap.size + 1, 1, none⟩ (.int .i64 Qy) := ⟨_, rfl⟩
              go_upto_region 17 with fail
              rw [← hw9]
              rw [← hw9] at HN9
              clear hw9 y1 y2 y3 y4
              go_wp2_with fail
              have HBk : Hid (Bk w9 (w9.alloc (.cells #[.bool false, .slice none 0 0] 45)) w9.heap.size [] [w9.heap.size]) := (show Bk w9 w9 w9.heap.size [] [] from ⟨Below.refl _ _, Nat.le_refl _, fun p hp => (by cases hp), fun c hc => (by cases hc)⟩).alloc _ _
              refine (B_any 1 _ (by omega) (by omega)).mono ?_
              rintro e y2 ⟨c2, rfl, m2⟩
              have HB2 : Hid (Bk w9 y2 w9.heap.size [(c2, 1)] [w9.heap.size]) := HBk.out.made m2
              clear m2 HBk
              go_wp2_with fail
              refine (Add_any w9.heap.size z c2 p 1 3 3 y2 (HB2.out.fr _ (by simp)) (HN9.out.2.below HB2.out.bel (Nat.le_refl _)) (HB2.out.big (c2, 1) (by simp)) HP.out.2 (by decide) (by omega) (by omega)).mono ?_
              rintro e y3 ⟨rfl, h3, u3⟩
              have HN10 : Hid (Nf a b w y3 bx Px Qx q (k + 1) (.pointer (some ⟨w3.heap.size, 0, none⟩)) ∧ BigAt y3 w9.heap.size (a * (q : Int) / b + ((k + 1 : Nat) : Int))) := by
                refine ⟨HN9.out.1.below (HB2.out.bel.trans (u3.below HB2.out.le (Nat.le_refl _))), ?_⟩
                have h4 := h3
                rw [HP.out.1] at h4
                rw [Int.natCast_add, ← Int.add_assoc]
                exact h4
              clear h3 u3 HB2
              go_wp2
              go_roundg (gk - 1)
              case rel => exact ⟨k + 1, w9.heap.size, by simp, rfl, by omega, HN10.out.1, HN10.out.2⟩
              case measure => omega
            · have HN9 : Hid (Nf a b w v5 bx Px Qx q (k + 1) (.pointer (some ⟨bf, 0, none⟩)) ∧ BigAt v5 z p) := by
                refine ⟨HS5x.out.2.2.keep HRt.out.1 HRt.out.2.1 HRt.out.2.2.1 HRt.out.2.2.2.1 (Bs.same HRt.out.2.2.2.2 HB0.out (by omega) (by omega) HP.out.1 HDs.out.2 HDs.out.1 ?_), HS5x.out.2.1⟩
                intro c
                have := HC.out
                unfold cmpZ at this
                rw [if_pos c] at this
                omega
              go_wp2_with fail
              have HBk : Hid (Bk v5 (v5.alloc (.cells #[.bool false, .slice none 0 0] 45)) v5.heap.size [] [v5.heap.size]) := (show Bk v5 v5 v5.heap.size [] [] from ⟨Below.refl _ _, Nat.le_refl _, fun p hp => (by cases hp), fun c hc => (by cases hc)⟩).alloc _ _
              refine (B_any 1 _ (by omega) (by omega)).mono ?_
              rintro e y2 ⟨c2, rfl, m2⟩
              have HB2 : Hid (Bk v5 y2 v5.heap.size [(c2, 1)] [v5.heap.size]) := HBk.out.made m2
              clear m2 HBk
              go_wp2_with fail
              refine (Add_any v5.heap.size z c2 p 1 3 3 y2 (HB2.out.fr _ (by simp)) (HN9.out.2.below HB2.out.bel (Nat.le_refl _)) (HB2.out.big (c2, 1) (by simp)) HP.out.2 (by decide) (by omega) (by omega)).mono ?_
              rintro e y3 ⟨rfl, h3, u3⟩
              have HN10 : Hid (Nf a b w y3 bx Px Qx q (k + 1) (.pointer (some ⟨bf, 0, none⟩)) ∧ BigAt y3 v5.heap.size (a * (q : Int) / b + ((k + 1 : Nat) : Int))) := by
                refine ⟨HN9.out.1.below (HB2.out.bel.trans (u3.below HB2.out.le (Nat.le_refl _))), ?_⟩
                have h4 := h3
                rw [HP.out.1] at h4
                rw [Int.natCast_add, ← Int.add_assoc]
                exact h4
              clear h3 u3 HB2
              go_wp2
              go_roundg (gk - 1)
              case rel => exact ⟨k + 1, v5.heap.size, by simp, rfl, by omega, HN10.out.1, HN10.out.2⟩
              case measure => omega
        · obtain rfl : k = 2 := by omega
          have hkb : decide (((2 : Nat) : Int) < 2) = false := by decide
          go_wp2
          go_roundg (n1 - 1)
          case rel => exact ⟨q + 1, by simp, by omega, by omega, HN.out.1.next⟩
          case measure => omega
    · have hq' : q = most + 1 := by omega
      have hb1 : decide ((q : Int) ≤ (most : Int)) = false := decide_eq_false (by omega)
      obtain ⟨P, Q, F, G, bf, rfl, _, _, _, hc, hBs, hlt⟩ : ∃ P Q F G bf, u8 = .pointer (some ⟨bf, 0, none⟩) ∧ Rt wr bf F G ∧ F.natAbs < pw 16 ∧ G.natAbs < pw 16 ∧ Cl (w.heap.size + 1) [.int .i64 P, .int .i64 Q] 23 wr ∧ Bs a b (q : Int) ((0 : Nat) : Int) P Q F G ∧ (0 = 0 → Q < (q : Int)) := by
        rcases HN.out.st with ⟨h1, _⟩ | h
        · omega
        · exact h
      have hBF : BestF a b (most : Int) P Q := by
        refine Bs.best (F := F) (G := G) ?_ HB0.out (by have := hlt rfl; omega)
        have := hBs
        rw [hq'] at this
        simpa using this
      have HBF : Hid (BestF a b (most : Int) P Q) := hBF
      have q1 := hc.cell 0
      have q2 := hc.cell 1
      have q3 := HN.out.res.cell 0
      have q4 := HN.out.res.cell 1
      have q5 := HN.out.res.frozen 0
      have q6 := HN.out.res.frozen 1
      simp only [List.getElem?_cons_zero, List.getElem?_cons_succ] at q1 q2 q3 q4
      have HE : Hid (Cl w.heap.size [.int .i64 0, .int .i64 0] 23 wr ∧ Below w.heap.size w wr) := ⟨HN.out.res, HN.out.bel⟩
      clear hBs hlt hBF hc hq'
      go_wp2
      have r := (HE.out.1.set 0 (.int .i64 P)).set 1 (.int .i64 Q)
      have k := (HE.out.2.setCell (p := ⟨w.heap.size, 0, none⟩) (Nat.le_refl _) (.int .i64 P)).setCell (p := ⟨w.heap.size, 1, none⟩) (Nat.le_refl _) (.int .i64 Q)
      generalize (wr.setCell ⟨w.heap.size, 0, none⟩ (.int .i64 P)).setCell ⟨w.heap.size, 1, none⟩ (.int .i64 Q) = WF at *
      have r1 := r.cell 0
      have r2 := r.cell 1
      simp only [List.set_cons_zero, List.set_cons_succ, List.getElem?_cons_zero, List.getElem?_cons_succ] at r1 r2
      exact bodyPost_ret (v := .agg #[.int .i64 P, .int .i64 Q]) (by simp [results, Tryz.results13, go_sem, r1, r2]) rfl ⟨P, Q, rfl, HBF.out, k⟩

end Go.Proofs.YtfbgblidlabipaaGreatDoor
