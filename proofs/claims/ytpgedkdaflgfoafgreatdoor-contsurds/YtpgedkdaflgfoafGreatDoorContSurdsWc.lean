/- ContSurds: the way with an answer. -/
import Derived.Test.YtpgedkdaflgfoafGreatDoorContSurdsWb
import Derived.Test.YtpgedkdaflgfoafGreatDoorIntsAny
set_option linter.unusedSimpArgs false
set_option linter.unusedVariables false
set_option maxRecDepth 100000
namespace Go.Proofs.YtpgedkdaflgfoafGreatDoor
open Go.RowKit LgM CfM

theorem nn_end {n r N : Nat} (h : Rn n r) (hN : Fst n r N) : (cs n r (NN N - 1)).2 = 1 ∧ (NN N - 1) % 2 = 1 := by
  obtain ⟨h1, h2, h3, h4⟩ := hN
  unfold NN
  split
  · exact ⟨h3, by omega⟩
  · have := cs_again h h3 (N - 1)
    rw [show N - 1 + 1 + (N - 1) = 2 * N - 1 by omega] at this
    exact ⟨by rw [this]; exact h3, by omega⟩
theorem nine_pw (k : Nat) : 1000000000 ^ k ≤ pw k := by
  induction k with
  | zero => decide
  | succ k ih => rw [Nat.pow_succ, Nat.mul_comm, show pw (k + 1) = 4294967296 * pw k from rfl]; exact Nat.mul_le_mul (by omega) ih
theorem nine_ten (k : Nat) : 1000000000 ^ k = 10 ^ (9 * k) := by rw [Nat.pow_mul]
theorem dgi_head (n : Nat) (h : 0 < n) : 49 ≤ dgi (Lib.decDigits n) 0 ∧ 1 ≤ (Lib.decDigits n).length := by
  obtain ⟨c, t, e, h1⟩ := dec_head n h
  rw [e]
  exact ⟨h1, by simp⟩

set_option maxHeartbeats 8000000 in
theorem cs_good (n r N P Q : Nat) (w : World) (hR : Rn n r) (hn : n ≤ 1000000) (hF : Fst n r N) (hT : Tq w)
    (hPQ : P * P = n * (Q * Q) + 1) (hP : P < pw 2000) (hQ : Q < pw 2000) (hQ1 : 1 ≤ Q) (hP1 : 1 ≤ P) (dP : (Lib.decDigits P).length ≤ 20000) (dQ : (Lib.decDigits Q).length ≤ 20000)
    (hC : n ≤ 5000 → cyc0 n r = some (P, Q))
    (hSu : ∀ w, Calls Tryz.prog 12 #[.int .i64 (n : Int)] w fun e w' => ∃ a c, e = .returned (.tuple #[.int .i64 (r : Int), .slice a N c, .agg #[.int .i64 0, .int .i64 0]]) ∧ IS w' (.slice a N c) (nz (kl r (cs n r) N)) ∧ Below w.heap.size w w')
    (hPe : ∀ w, Tq w → Calls Tryz.prog 13 #[.int .i64 (n : Int)] w fun e w' => e = .returned (.tuple #[.string ⟨(Lib.decDigits P).toArray⟩, .string ⟨(Lib.decDigits Q).toArray⟩, .agg #[.int .i64 0, .int .i64 0]]) ∧ Below w.heap.size w w')
    (hSf : ∀ w, Calls Tryz.prog 14 #[.int .i64 (n : Int)] w fun e w' => e = .returned (.agg #[.int .i64 0, .int .i64 0]) ∧ Below w.heap.size w w') :
    Calls Tryz.prog 4 #[.int .i64 (n : Int)] w fun e w' => e = .returned (.bool true) ∧ Below w.heap.size w w' := by
  obtain ⟨sx, hsx⟩ : ∃ sx : ByteArray, sx = ⟨(Lib.decDigits P).toArray⟩ := ⟨_, rfl⟩
  obtain ⟨sy, hsy⟩ : ∃ sy : ByteArray, sy = ⟨(Lib.decDigits Q).toArray⟩ := ⟨_, rfl⟩
  rw [← hsx, ← hsy] at hPe
  have HDx : Hid (∀ w, Calls Tryz.prog 17 #[.string sx] w fun e w' => ∃ b, e = .returned (.tuple #[.pointer (some ⟨b, 0, none⟩), .bool true]) ∧ w.heap.size ≤ b ∧ BigAt w' b (P : Int) ∧ Below w.heap.size w w') := fun w => by
    rw [hsx]; exact Digits_dec (Lib.decDigits P) P w (dec_digit P) (dgi_head P hP1).1 (dgi_head P hP1).2 dP (rd_dec P)
  have HDy : Hid (∀ w, Calls Tryz.prog 17 #[.string sy] w fun e w' => ∃ b, e = .returned (.tuple #[.pointer (some ⟨b, 0, none⟩), .bool true]) ∧ w.heap.size ≤ b ∧ BigAt w' b (Q : Int) ∧ Below w.heap.size w w') := fun w => by
    rw [hsy]; exact Digits_dec (Lib.decDigits Q) Q w (dec_digit Q) (dgi_head Q hQ1).1 (dgi_head Q hQ1).2 dQ (rd_dec Q)
  have HT : Hid (Tq w) := hT
  have HSu : Hid (∀ w, Calls Tryz.prog 12 #[.int .i64 (n : Int)] w fun e w' => ∃ a c, e = .returned (.tuple #[.int .i64 (r : Int), .slice a N c, .agg #[.int .i64 0, .int .i64 0]]) ∧ IS w' (.slice a N c) (nz (kl r (cs n r) N)) ∧ Below w.heap.size w w') := hSu
  have HPe : Hid (∀ w, Tq w → Calls Tryz.prog 13 #[.int .i64 (n : Int)] w fun e w' => e = .returned (.tuple #[.string sx, .string sy, .agg #[.int .i64 0, .int .i64 0]]) ∧ Below w.heap.size w w') := hPe
  have HSf : Hid (∀ w, Calls Tryz.prog 14 #[.int .i64 (n : Int)] w fun e w' => e = .returned (.agg #[.int .i64 0, .int .i64 0]) ∧ Below w.heap.size w w') := hSf
  have HRn : Hid (Rn n r) := hR
  have HF : Hid (Fst n r N) := hF
  have HPQ : Hid (P * P = n * (Q * Q) + 1 ∧ P < pw 2000 ∧ Q < pw 2000) := ⟨hPQ, hP, hQ⟩
  have HC : Hid (n ≤ 5000 → cyc0 n r = some (P, Q)) := hC
  have hrs := rn_small hR hn
  have hN1 := hF.2.1
  clear hT hSu hPe hSf hR hF hPQ hP hQ hC dP dQ hsx hsy
  go_enter Tryz.func4, Tryz.ntmps4
  go_wp2_with fail
  refine (HSu.out w).mono ?_
  rintro e w1 ⟨la, lc, rfl, hls, k1⟩
  have HLs : Hid (IS w1 (.slice la N lc) (nz (kl r (cs n r) N))) := hls
  have hM1 := Bx.one HT.out k1 (.int .i64 0) (.int .i64 0)
  have HK1 : w.heap.size ≤ w1.heap.size := k1.size
  clear HT HSu k1 hls
  go_wp2_with fail
  generalize hW1 : (w1.alloc (.cells #[.int .i64 0, .int .i64 0] 25)) = W1 at hM1 ⊢
  have HM1 : Hid (Bx w W1 [(w1.heap.size, [.int .i64 0, .int .i64 0])]) := hM1
  have HLs : Hid (IS W1 (.slice la N lc) (nz (kl r (cs n r) N))) := by rw [← hW1]; exact IS.belowL HLs.out (Below.alloc_self' _ _)
  have z1 : W1.heap.size = w1.heap.size + 1 := by rw [← hW1]; simp
  clear hM1 hW1
  refine (HPe.out W1 HM1.out.t).mono ?_
  rintro e w2 ⟨rfl, k2⟩
  have s2 := k2.size
  have HLs : Hid (IS w2 (.slice la N lc) (nz (kl r (cs n r) N))) := IS.belowL HLs.out k2
  have hM2 := (HM1.out.go k2).box (.int .i64 0) (.int .i64 0)
  clear HM1 HPe k2
  go_wp2_with fail
  generalize hW2 : (w2.alloc (.cells #[.int .i64 0, .int .i64 0] 25)) = W2 at hM2 ⊢
  have HM2 : Hid (Bx w W2 [(w2.heap.size, [.int .i64 0, .int .i64 0]), (w1.heap.size, [.int .i64 0, .int .i64 0])]) := hM2
  have HLs : Hid (IS W2 (.slice la N lc) (nz (kl r (cs n r) N))) := by rw [← hW2]; exact IS.belowL HLs.out (Below.alloc_self' _ _)
  have z2 : W2.heap.size = w2.heap.size + 1 := by rw [← hW2]; simp
  clear hM2 hW2
  refine (HSf.out W2).mono ?_
  rintro e w3 ⟨rfl, k3⟩
  have s3 := k3.size
  have HLs : Hid (IS w3 (.slice la N lc) (nz (kl r (cs n r) N))) := IS.belowL HLs.out k3
  have hM3 := (HM2.out.go k3).box (.int .i64 0) (.int .i64 0)
  clear HM2 HSf k3
  have c0 := (hM3.cl w3.heap.size [.int .i64 0, .int .i64 0] (by simp)).cell 0
  simp only [List.getElem?_cons_zero] at c0
  go_wp2_with fail
  generalize hW3 : (w3.alloc (.cells #[.int .i64 0, .int .i64 0] 25)) = W3 at hM3 ⊢
  have HM3 : Hid (Bx w W3 [(w3.heap.size, [.int .i64 0, .int .i64 0]), (w2.heap.size, [.int .i64 0, .int .i64 0]), (w1.heap.size, [.int .i64 0, .int .i64 0])]) := hM3
  have HLs : Hid (IS W3 (.slice la N lc) (nz (kl r (cs n r) N))) := by rw [← hW3]; exact IS.belowL HLs.out (Below.alloc_self' _ _)
  have z3 : W3.heap.size = w3.heap.size + 1 := by rw [← hW3]; simp
  clear hM3 hW3 c0
  refine (PeriodOf_any n r W3 HRn.out hn).mono ?_
  rintro e w4 ⟨M, pa, pc, rfl, hIS, ⟨⟨hM1, hM2⟩, hM3, hM4⟩, k4⟩
  have hMN : M = N := by
    obtain ⟨f1, f2, f3, f4⟩ := HF.out
    have h1 : M ≤ N := by
      rcases Nat.lt_or_ge N M with h | h
      · exact absurd f3 (hM3 (N - 1) (by omega))
      · exact h
    have h5 : (cs n r (M - 1)).2 = 1 := by
      rcases hM4 with h | h
      · omega
      · exact h
    exact fst_uniq ⟨hM1, by omega, h5, hM3⟩ HF.out
  subst hMN
  have hM : ¬ (1000 : Int) < (M : Int) := by omega
  have s4 := k4.size
  have HLs : Hid (IS w4 (.slice la M lc) (nz (kl r (cs n r) M))) := IS.belowL HLs.out k4
  have HLw : Hid (IS w4 (.slice pa M pc) (nz (kl r (cs n r) M))) := hIS
  have HX4 : Hid (Bx w w4 [(w3.heap.size, [.int .i64 0, .int .i64 0]), (w2.heap.size, [.int .i64 0, .int .i64 0]), (w1.heap.size, [.int .i64 0, .int .i64 0])]) := HM3.out.go k4
  clear HM3 hIS hM3 hM4 k4 HF
  go_wp2_with fail
  refine (contBegun_any w4 HX4.out.t).mono ?_
  rintro e w5 ⟨rfl, k5⟩
  have hM5 := HX4.out.go k5
  have HLs : Hid (IS w5 (.slice la M lc) (nz (kl r (cs n r) M))) := IS.belowL HLs.out k5
  have HLw : Hid (IS w5 (.slice pa M pc) (nz (kl r (cs n r) M))) := IS.belowL HLw.out k5
  clear HX4 k5
  have HB : Hid (Below w.heap.size w w5) := hM5.k
  have a0 := (hM5.cl w3.heap.size [.int .i64 0, .int .i64 0] (by simp)).cell 0
  have a1 := (hM5.cl w3.heap.size [.int .i64 0, .int .i64 0] (by simp)).cell 1
  have b0 := (hM5.cl w2.heap.size [.int .i64 0, .int .i64 0] (by simp)).cell 0
  have b1 := (hM5.cl w2.heap.size [.int .i64 0, .int .i64 0] (by simp)).cell 1
  have d0 := (hM5.cl w1.heap.size [.int .i64 0, .int .i64 0] (by simp)).cell 0
  have d1 := (hM5.cl w1.heap.size [.int .i64 0, .int .i64 0] (by simp)).cell 1
  simp at a0 a1 b0 b1 d0 d1
  clear hM5
  obtain ⟨RR, hRR⟩ : ∃ RR : Nat, RR = r * r := ⟨_, rfl⟩
  have hRRI : (r : Int) * (r : Int) = (RR : Int) := by rw [hRR, Int.natCast_mul]
  have hRRn : RR < n := by rw [hRR]; exact HRn.out.lo
  obtain ⟨RS, hRS⟩ : ∃ RS : Nat, RS = (r + 1) * (r + 1) := ⟨_, rfl⟩
  have hRSI : ((r : Int) + 1) * ((r : Int) + 1) = (RS : Int) := by rw [hRS, Int.natCast_mul, Int.natCast_add]; rfl
  have hRSn : n < RS := by rw [hRS]; exact HRn.out.hi
  have hRSb : RS ≤ 1002001 := by rw [hRS]; exact Nat.mul_le_mul (show r + 1 ≤ 1001 by omega) (show r + 1 ≤ 1001 by omega)
  have c1 : ¬ (n : Int) < (RR : Int) := by omega
  have c2 : ¬ (RS : Int) ≤ (n : Int) := by omega
  clear hRR hRS
  go_wp2_with fail
  refine (refInts_any _ _ _ _ w5 HLs.out HLw.out (by rw [nz_len, kl_len]; omega) (by rw [nz_len, kl_len]; omega)).mono ?_
  rintro e w6 ⟨rfl, q6, hw6⟩
  rw [decide_eq_true rfl]
  have HB6 : Hid (Bk w w6 w.heap.size [] []) := ⟨by rw [hw6]; exact below_drewN' HB.out, by rw [hw6]; exact HB.out.size, (fun _ h => by cases h), (fun _ h => by cases h)⟩
  clear hw6 HB HLs HLw a0 a1 b0 b1 d0 d1 hRRI hRSI hRSb
  go_wp2_with fail
  refine (HDx.out w6).mono ?_
  rintro e w7 ⟨bp, rfl, hm7⟩
  have l7 := hm7.2.1.lt
  have g7 := hm7.1
  have hwb : w.heap.size ≤ w6.heap.size := HB6.out.le
  have HB7 : Hid (Bk w w7 w.heap.size [(bp, (P : Int))] []) := HB6.out.made hm7
  clear hm7 HB6 HDx
  go_wp2_with fail
  refine (HDy.out w7).mono ?_
  rintro e w8 ⟨bq, rfl, hm8⟩
  have l8 := hm8.2.1.lt
  have g8 := hm8.1
  have s8 := hm8.2.2.size
  have HB8 : Hid (Bk w w8 w.heap.size [(bq, (Q : Int)), (bp, (P : Int))] []) := HB7.out.made hm8
  clear hm8 HB7 HDy
  go_wp2_with fail
  refine (Sign_any bq (Q : Int) w8 (HB8.out.big (bq, (Q : Int)) (by simp))).mono ?_
  rintro e w9 ⟨rfl, rfl⟩
  rw [Int.sign_eq_one_of_pos (by omega)]
  by_cases hbig : 5000 < n
  · have hbg : (5000 : Int) < (n : Int) := by omega
    go_wp2_with fail
    have hk0 := (HB8.out.alloc (.bool false) (.slice none 0 0)).alloc (.bool false) (.slice none 0 0)
    obtain ⟨W0, hW0⟩ : ∃ W0, W0 = ((w9.alloc (.cells #[.bool false, .slice none 0 0] 48)).alloc (.cells #[.bool false, .slice none 0 0] 48)) := ⟨_, rfl⟩
    have z0 : W0.heap.size = w9.heap.size + 2 := by rw [hW0]; simp
    have e0 : (w9.alloc (.cells #[.bool false, .slice none 0 0] 48)).heap.size = w9.heap.size + 1 := by simp
    rw [e0, ← hW0] at hk0
    rw [← hW0]
    clear hW0 e0
    have HW0 : Hid (Bk w W0 w.heap.size [(bq, (Q : Int)), (bp, (P : Int))] [w9.heap.size + 1, w9.heap.size]) := hk0
    clear hk0 HB8
    have HLP : Hid ((P : Int).natAbs < pw 2000) := by show _ < _; rw [Int.natAbs_natCast]; exact HPQ.out.2.1
    have HLQ : Hid ((Q : Int).natAbs < pw 2000) := by show _ < _; rw [Int.natAbs_natCast]; exact HPQ.out.2.2
    have HLn : Hid ((n : Int).natAbs < pw 1) := by show _ < _; rw [show pw 1 = 4294967296 from rfl, Int.natAbs_natCast]; omega
    have HLPP : Hid (((P : Int) * P).natAbs < pw 4000) := by
      show _ < _
      rw [← Int.natCast_mul, Int.natAbs_natCast, show (4000 : Nat) = 2000 + 2000 from rfl, pw_add]
      exact Nat.mul_lt_mul_of_le_of_lt (Nat.le_of_lt HPQ.out.2.1) HPQ.out.2.1 (pw_pos _)
    have HLQQ : Hid (((Q : Int) * Q).natAbs < pw 4000) := by
      show _ < _
      rw [← Int.natCast_mul, Int.natAbs_natCast, show (4000 : Nat) = 2000 + 2000 from rfl, pw_add]
      exact Nat.mul_lt_mul_of_le_of_lt (Nat.le_of_lt HPQ.out.2.2) HPQ.out.2.2 (pw_pos _)
    have HLD : Hid (((n : Int) * ((Q : Int) * Q)).natAbs < pw 4000) := by
      show _ < _
      have h1 := HLPP.out
      have h2 := HPQ.out.1
      rw [← Int.natCast_mul, Int.natAbs_natCast] at h1
      rw [← Int.natCast_mul, ← Int.natCast_mul, Int.natAbs_natCast]
      omega
    refine (Mul_any (w9.heap.size + 1) bp bp (P : Int) (P : Int) 2000 2000 W0 (HW0.out.fr _ (by simp)) (HW0.out.big (bp, (P : Int)) (by simp)) (HW0.out.big (bp, (P : Int)) (by simp)) HLP.out HLP.out (by omega) (by omega)).mono ?_
    rintro e v1 ⟨rfl, h1, u1⟩
    have s1 := u1.size
    have HV1 : Hid (Bk w v1 w.heap.size [(w9.heap.size + 1, (P : Int) * P), (bq, (Q : Int))] [w9.heap.size]) := HW0.out.upd (HW0.out.fr _ (by simp)) (by omega) h1 u1 (by simp; omega) (by simp)
    clear h1 u1 HW0
    have HV2 : Hid (Bk w (v1.alloc (.cells #[.bool false, .slice none 0 0] 48)) w.heap.size [(w9.heap.size + 1, (P : Int) * P), (bq, (Q : Int))] [v1.heap.size, w9.heap.size]) := HV1.out.alloc _ _
    clear HV1
    go_wp2_with fail
    obtain ⟨v2, hv2⟩ : ∃ v2, v2 = v1.alloc (.cells #[.bool false, .slice none 0 0] 48) := ⟨_, rfl⟩
    have s2 : v2.heap.size = v1.heap.size + 1 := by rw [hv2]; simp
    rw [← hv2] at HV2 ⊢
    clear hv2
    refine (B_any (n : Int) v2 (by omega) (by omega)).mono ?_
    rintro e v3 ⟨bn, rfl, hm3⟩
    have g3 := hm3.1
    have l3 := hm3.2.1.lt
    have s3 := hm3.2.2.size
    have HV3 : Hid (Bk w v3 w.heap.size [(bn, (n : Int)), (w9.heap.size + 1, (P : Int) * P), (bq, (Q : Int))] [v1.heap.size, w9.heap.size]) := HV2.out.made hm3
    clear hm3 HV2
    have HV4 : Hid (Bk w (v3.alloc (.cells #[.bool false, .slice none 0 0] 48)) w.heap.size [(bn, (n : Int)), (w9.heap.size + 1, (P : Int) * P), (bq, (Q : Int))] [v3.heap.size, v1.heap.size, w9.heap.size]) := HV3.out.alloc _ _
    clear HV3
    go_wp2_with fail
    obtain ⟨v4, hv4⟩ : ∃ v4, v4 = v3.alloc (.cells #[.bool false, .slice none 0 0] 48) := ⟨_, rfl⟩
    have s4 : v4.heap.size = v3.heap.size + 1 := by rw [hv4]; simp
    rw [← hv4] at HV4 ⊢
    clear hv4
    refine (Mul_any v3.heap.size bq bq (Q : Int) (Q : Int) 2000 2000 v4 (HV4.out.fr _ (by simp)) (HV4.out.big (bq, (Q : Int)) (by simp)) (HV4.out.big (bq, (Q : Int)) (by simp)) HLQ.out HLQ.out (by omega) (by omega)).mono ?_
    rintro e v5 ⟨rfl, h5, u5⟩
    have s5 := u5.size
    have HV5 : Hid (Bk w v5 w.heap.size [(v3.heap.size, (Q : Int) * Q), (bn, (n : Int)), (w9.heap.size + 1, (P : Int) * P)] [v1.heap.size, w9.heap.size]) := HV4.out.upd (HV4.out.fr _ (by simp)) (by omega) h5 u5 (by simp; omega) (by simp; omega)
    clear h5 u5 HV4
    go_wp2_with fail
    refine (Mul_any v1.heap.size bn v3.heap.size (n : Int) ((Q : Int) * Q) 1 4000 v5 (HV5.out.fr _ (by simp)) (HV5.out.big (bn, (n : Int)) (by simp)) (HV5.out.big (v3.heap.size, (Q : Int) * Q) (by simp)) HLn.out HLQQ.out (by omega) (by omega)).mono ?_
    rintro e v6 ⟨rfl, h6, u6⟩
    have s6 := u6.size
    have HV6 : Hid (Bk w v6 w.heap.size [(v1.heap.size, (n : Int) * ((Q : Int) * Q)), (w9.heap.size + 1, (P : Int) * P)] [w9.heap.size]) := HV5.out.upd (HV5.out.fr _ (by simp)) (by omega) h6 u6 (by simp; omega) (by simp; omega)
    clear h6 u6 HV5
    go_wp2_with fail
    refine (Sub_any w9.heap.size (w9.heap.size + 1) v1.heap.size ((P : Int) * P) ((n : Int) * ((Q : Int) * Q)) 4000 4000 v6 (HV6.out.fr _ (by simp)) (HV6.out.big (w9.heap.size + 1, (P : Int) * P) (by simp)) (HV6.out.big (v1.heap.size, (n : Int) * ((Q : Int) * Q)) (by simp)) HLPP.out HLD.out (by omega) (by omega)).mono ?_
    rintro e v7 ⟨rfl, h7, u7⟩
    have s7 := u7.size
    have hone : (P : Int) * P - (n : Int) * ((Q : Int) * Q) = 1 := by
      have := HPQ.out.1
      rw [← Int.natCast_mul, ← Int.natCast_mul, ← Int.natCast_mul]
      omega
    rw [hone] at h7
    have HV7 : Hid (Bk w v7 w.heap.size [(w9.heap.size, (1 : Int))] []) := HV6.out.upd (HV6.out.fr _ (by simp)) (by omega) h7 u7 (by simp) (by simp)
    clear h7 u7 HV6 hone HLP HLQ HLn HLPP HLQQ HLD HPQ
    go_wp2_with fail
    refine (B_any 1 v7 (by omega) (by omega)).mono ?_
    rintro e v8 ⟨bo, rfl, hm8⟩
    have HV8 : Hid (Bk w v8 w.heap.size [(bo, (1 : Int)), (w9.heap.size, (1 : Int))] []) := HV7.out.made hm8
    clear hm8 HV7
    go_wp2_with fail
    refine (Cmp_any w9.heap.size bo 1 1 1 1 v8 (HV8.out.big (w9.heap.size, (1 : Int)) (by simp)) (HV8.out.big (bo, (1 : Int)) (by simp)) (by decide) (by decide) (by omega) (by omega)).mono ?_
    rintro e v9 ⟨rfl, q9, hv9⟩
    rw [show cmpZ 1 1 = 0 from rfl]
    have HKK : Hid (Below w.heap.size w v9) := by show Below _ _ _; rw [hv9]; exact below_drewN' HV8.out.bel
    clear hv9 HV8
    go_wp2
    go_ret
    exact ⟨rfl, HKK.out⟩
  · have hbg : ¬ (5000 : Int) < (n : Int) := by omega
    go_wp2_with fail
    refine (Cycled_any n r (P, Q) w9 HRn.out (by omega) (HC.out (by omega))).mono ?_
    rintro e v1 ⟨ba, bb, rfl, h1, h2, h3, h4, k1⟩
    have HLP : Hid ((P : Int).natAbs < pw 201) := by show _ < _; rw [Int.natAbs_natCast]; exact h3
    have HLQ : Hid ((Q : Int).natAbs < pw 201) := by show _ < _; rw [Int.natAbs_natCast]; exact h4
    have HP : Hid (BigAt v1 ba (P : Int) ∧ BigAt v1 bb (Q : Int) ∧ BigAt v1 bp (P : Int) ∧ BigAt v1 bq (Q : Int) ∧ Below w.heap.size w v1) := ⟨h1, h2, (HB8.out.big (bp, (P : Int)) (by simp)).below k1 (Nat.le_refl _), (HB8.out.big (bq, (Q : Int)) (by simp)).below k1 (Nat.le_refl _), HB8.out.bel.trans (k1.mono HB8.out.le)⟩
    have cpp : cmpZ (P : Int) (P : Int) = 0 := by simp [cmpZ]
    have cqq : cmpZ (Q : Int) (Q : Int) = 0 := by simp [cmpZ]
    clear h1 h2 h3 h4 k1 HB8
    go_wp2_with fail
    refine (Cmp_any bp ba (P : Int) (P : Int) 201 201 v1 HP.out.2.2.1 HP.out.1 HLP.out HLP.out (by omega) (by omega)).mono ?_
    rintro e v2 ⟨rfl, q2, hv2⟩
    rw [cpp]
    have HP2 : Hid (BigAt v2 bb (Q : Int) ∧ BigAt v2 bq (Q : Int) ∧ Below w.heap.size w v2) := by
      subst hv2
      exact ⟨HP.out.2.1.drewN, HP.out.2.2.2.1.drewN, below_drewN' HP.out.2.2.2.2⟩
    clear hv2 HP HLP
    go_wp2_with fail
    refine (Cmp_any bq bb (Q : Int) (Q : Int) 201 201 v2 HP2.out.2.1 HP2.out.1 HLQ.out HLQ.out (by omega) (by omega)).mono ?_
    rintro e v3 ⟨rfl, q3, hv3⟩
    rw [cqq]
    have HKK : Hid (Below w.heap.size w v3) := by show Below _ _ _; rw [hv3]; exact below_drewN' HP2.out.2.2
    clear hv3 HP2 HLQ
    go_wp2
    go_ret
    exact ⟨rfl, HKK.out⟩

end Go.Proofs.YtpgedkdaflgfoafGreatDoor
