/- The law ContUnits: the way with an answer. Written by mkcu.py. -/
import Derived.Test.YtfbgblidlabipaaGreatDoorContUnitsWb
set_option linter.unusedSimpArgs false
set_option linter.unusedVariables false
set_option maxRecDepth 100000
namespace Go.Proofs.YtfbgblidlabipaaGreatDoor
open Go.RowKit LgM CfM UtM

set_option maxHeartbeats 8000000 in
theorem cu_g0m (n r UX UY : Nat) (w : World) (hT : Tq w) (hn1 : 2 ≤ n) (hn : n ≤ 1000000) (h4 : n % 4 ≠ 1) (hs : ¬ SqF n) (hR : Rn n r) (hUA : UA n 1 UX UY (-1)) (hX1 : 1 ≤ UX) (hXp : UX < pw 1000) (hYp : UY < pw 1000) (dX : (Lib.decDigits UX).length ≤ 20000) (dY : (Lib.decDigits UY).length ≤ 20000)
    (hmin : ∀ (a b : Nat) (s : Int), UA n 1 a b s → UY ≤ b ∧ ((a = UX ∧ b = UY ∧ s = (-1)) ∨ UX < a)) (hMt : n ≤ 3000 → ∃ u v, cyc0 n r = some (u, v) ∧ Mt n UX UY u v)
    (hUn : Calls Tryz.prog 15 #[.int .i64 (n : Int)] w fun e w' => e = .returned (.tuple #[.string ⟨(Lib.decDigits UX).toArray⟩, .string ⟨(Lib.decDigits UY).toArray⟩, .int .i64 (-1), .agg #[.int .i64 0, .int .i64 0]]) ∧ Below w.heap.size w w')
    (hSf : ∀ w, Calls Tryz.prog 16 #[.int .i64 (n : Int)] w fun e w' => e = .returned (.agg #[.int .i64 0, .int .i64 0]) ∧ Below w.heap.size w w')
    (hLu : ∀ w, Calls Tryz.prog 24 #[.int .i64 (n : Int), .int .i64 300] w fun e w' => LuOut n 1 e ∧ Below w.heap.size w w') :
    Calls Tryz.prog 4 #[.int .i64 (n : Int)] w fun e w' => e = .returned (.bool true) ∧ Below w.heap.size w w' := by
  obtain ⟨sx, hsx⟩ : ∃ sx : ByteArray, sx = ⟨(Lib.decDigits UX).toArray⟩ := ⟨_, rfl⟩
  obtain ⟨sy, hsy⟩ : ∃ sy : ByteArray, sy = ⟨(Lib.decDigits UY).toArray⟩ := ⟨_, rfl⟩
  rw [← hsx, ← hsy] at hUn
  have hY1 : 1 ≤ UY := hUA.b1
  have HDx : Hid (∀ w, Calls Tryz.prog 17 #[.string sx] w fun e w' => ∃ b, e = .returned (.tuple #[.pointer (some ⟨b, 0, none⟩), .bool true]) ∧ w.heap.size ≤ b ∧ BigAt w' b (UX : Int) ∧ Below w.heap.size w w') := fun w => by
    rw [hsx]; exact Digits_dec (Lib.decDigits UX) UX w (dec_digit UX) (u_head UX hX1).1 (u_head UX hX1).2 dX (rd_dec UX)
  have HDy : Hid (∀ w, Calls Tryz.prog 17 #[.string sy] w fun e w' => ∃ b, e = .returned (.tuple #[.pointer (some ⟨b, 0, none⟩), .bool true]) ∧ w.heap.size ≤ b ∧ BigAt w' b (UY : Int) ∧ Below w.heap.size w w') := fun w => by
    rw [hsy]; exact Digits_dec (Lib.decDigits UY) UY w (dec_digit UY) (u_head UY hY1).1 (u_head UY hY1).2 dY (rd_dec UY)
  have HN : Hid (2 ≤ n ∧ n ≤ 1000000) := ⟨hn1, hn⟩
  have HS : Hid (¬ SqF n) := hs
  have HRn : Hid (Rn n r) := hR
  have HUA : Hid (UA n 1 UX UY (-1)) := hUA
  have HSz : Hid (UX < pw 1000 ∧ UY < pw 1000 ∧ n < pw 1) := ⟨hXp, hYp, by rw [pw_one]; omega⟩
  have HMin : Hid (∀ (a b : Nat) (s : Int), UA n 1 a b s → UY ≤ b ∧ ((a = UX ∧ b = UY ∧ s = (-1)) ∨ UX < a)) := hmin
  have HMt : Hid (n ≤ 3000 → ∃ u v, cyc0 n r = some (u, v) ∧ Mt n UX UY u v) := hMt
  have HLu : Hid (∀ w, Calls Tryz.prog 24 #[.int .i64 (n : Int), .int .i64 300] w fun e w' => LuOut n 1 e ∧ Below w.heap.size w w') := hLu
  have HSg : Hid ((UY : Int).sign = 1) := Int.sign_eq_one_of_pos (by omega)
  have hm4 : ((n : Int) % 4 != 1) = true := bne_iff_ne.2 (by omega)
  have HPar : Hid (UX / 2 ^ 0 % 2 = 0 ∧ UY / 2 ^ 0 % 2 = 0) := by
    rcases hUA.lam with ⟨l0, l1, l2⟩ | ⟨l0, l1⟩
    · exact ⟨by simpa using l1, by simpa using l2⟩
    · omega
  clear hs hn1 hR hUA hX1 hXp hYp dX dY hmin hMt hLu hsx hsy hY1 h4
  have HT : Hid (Tq w) := hT
  have HUn : Hid (Calls Tryz.prog 15 #[.int .i64 (n : Int)] w fun e w' => e = .returned (.tuple #[.string sx, .string sy, .int .i64 (-1), .agg #[.int .i64 0, .int .i64 0]]) ∧ Below w.heap.size w w') := hUn
  have HSf : Hid (∀ w, Calls Tryz.prog 16 #[.int .i64 (n : Int)] w fun e w' => e = .returned (.agg #[.int .i64 0, .int .i64 0]) ∧ Below w.heap.size w w') := hSf
  clear hT hUn hSf
  go_enter Tryz.func4, Tryz.ntmps4
  go_wp2_with fail
  refine HUn.out.mono ?_
  rintro e w1 ⟨rfl, k1⟩
  have hM1 := Bx.one HT.out k1 (.int .i64 0) (.int .i64 0)
  have hwz : w.heap.size ≤ w1.heap.size := k1.size
  clear HT HUn k1
  go_wp2_with fail
  generalize hW1 : (w1.alloc (.cells #[.int .i64 0, .int .i64 0] 25)) = W1 at hM1 ⊢
  have HM1 : Hid (Bx w W1 [(w1.heap.size, [.int .i64 0, .int .i64 0])]) := hM1
  have z1 : W1.heap.size = w1.heap.size + 1 := by rw [← hW1]; simp
  clear hM1 hW1
  refine (HSf.out W1).mono ?_
  rintro e w2 ⟨rfl, k2⟩
  have s2 := k2.size
  have hM2 := (HM1.out.go k2).box (.int .i64 0) (.int .i64 0)
  clear HM1 HSf k2
  go_wp2_with fail
  generalize hW2 : (w2.alloc (.cells #[.int .i64 0, .int .i64 0] 25)) = W2 at hM2 ⊢
  have HM2 : Hid (Bx w W2 [(w2.heap.size, [.int .i64 0, .int .i64 0]), (w1.heap.size, [.int .i64 0, .int .i64 0])]) := hM2
  clear hM2 hW2
  refine (contBegun_any W2 HM2.out.t).mono ?_
  rintro e w3 ⟨rfl, k3⟩
  have HM3 : Hid (Bx w w3 [(w2.heap.size, [.int .i64 0, .int .i64 0]), (w1.heap.size, [.int .i64 0, .int .i64 0])]) := HM2.out.go k3
  clear HM2 k3
  have a0 := (HM3.out.cl w2.heap.size [.int .i64 0, .int .i64 0] (by simp)).cell 0
  simp only [List.getElem?_cons_zero] at a0
  have hb12 : w1.heap.size < w2.heap.size := by omega
  go_wp2
  clear a0
  go_loopg [8] 1001 (fun k v8 wx => ∃ (p : Nat) (c : Int), v8 = .int .i64 (p : Int) ∧ 2 ≤ p ∧ p + k = 1003 ∧ Hid (Bx w wx [(w2.heap.size, [.int .i64 c, .int .i64 0]), (w1.heap.size, [.int .i64 0, .int .i64 0])] ∧ (c = 0 ∧ (∀ p', 2 ≤ p' → p' < p → ¬ p' * p' ∣ n) ∨ c = 7 ∧ SqF n)))
  case atStart => exact ⟨2, 0, rfl, by omega, by omega, HM3.out, .inl ⟨rfl, fun p' h1 h2 => by omega⟩⟩
  case round =>
    clear HM3
    obtain ⟨p, c, rfl, hp2, hpk, HI⟩ := hrel
    obtain ⟨PP, hPP⟩ : ∃ PP : Nat, PP = p * p := ⟨_, rfl⟩
    have hPPI : (p : Int) * (p : Int) = (PP : Int) := by rw [hPP, Int.natCast_mul]
    have hPPb : PP ≤ 1006009 := by rw [hPP]; exact Nat.mul_le_mul (show p ≤ 1003 by omega) (show p ≤ 1003 by omega)
    have hPP4 : 4 ≤ PP := by rw [hPP]; exact Nat.mul_le_mul hp2 hp2
    have HPP : Hid (PP = p * p) := hPP
    clear hPP
    by_cases hle : PP ≤ n
    · have hleb : decide ((PP : Int) ≤ (n : Int)) = true := decide_eq_true (by omega)
      have hz : ((PP : Int) == 0) = false := beq_eq_false_iff_ne.2 (by omega)
      have hp1000 : p ≤ 1000 := by
        rcases Nat.lt_or_ge 1000 p with h | h
        · have h2 := Nat.mul_le_mul h h
          have h3 := HPP.out
          have h4 := HN.out
          omega
        · exact h
      by_cases hdv : n % PP = 0
      · have hm0 : ((n : Int) % (PP : Int) == 0) = true := beq_iff_eq.2 (by rw [← Int.natCast_emod, hdv]; rfl)
        have HDv : Hid (SqF n) := ⟨p, hp2, by rw [← HPP.out]; exact Nat.dvd_of_mod_eq_zero hdv⟩
        clear hdv
        go_wp2_with fail
        refine (F_any 7 0 wr).mono ?_
        rintro e w5 ⟨rfl, k5⟩
        have HM5 : Hid (Bx w w5 [(w2.heap.size, [.int .i64 c, .int .i64 0]), (w1.heap.size, [.int .i64 0, .int .i64 0])]) := HI.out.1.go k5
        have C5 := HM5.out.cl w2.heap.size [.int .i64 c, .int .i64 0] (by simp)
        have c0 := C5.cell 0
        have c1 := C5.cell 1
        have f0 := C5.frozen 0
        have f1 := C5.frozen 1
        simp only [List.getElem?_cons_zero, List.getElem?_cons_succ] at c0 c1
        have HM6 : Hid (Bx w ((w5.setCell ⟨w2.heap.size, 0, none⟩ (.int .i64 7)).setCell ⟨w2.heap.size, 1, none⟩ (.int .i64 0)) [(w2.heap.size, [.int .i64 7, .int .i64 0]), (w1.heap.size, [.int .i64 0, .int .i64 0])]) := HM5.out.set (by omega) (by simp; omega)
        clear C5 k5 HM5
        go_wp2
        go_roundg (gk - 1)
        case rel => exact ⟨p + 1, 7, by simp, by omega, by omega, HM6.out, .inr ⟨rfl, HDv.out⟩⟩
        case measure => omega
      · have hm0 : ((n : Int) % (PP : Int) == 0) = false := beq_eq_false_iff_ne.2 (by intro e; rw [← Int.natCast_emod] at e; exact hdv (by omega))
        have HDv : Hid (¬ n % PP = 0) := hdv
        clear hdv
        go_wp2
        go_roundg (gk - 1)
        case rel =>
          refine ⟨p + 1, c, by simp, by omega, by omega, HI.out.1, ?_⟩
          rcases HI.out.2 with ⟨h1, h2⟩ | h
          · refine .inl ⟨h1, fun p' h3 h4 => ?_⟩
            rcases Nat.lt_or_ge p' p with h5 | h5
            · exact h2 p' h3 h5
            · obtain rfl : p' = p := by omega
              intro h6
              exact HDv.out (by rw [HPP.out]; exact Nat.mod_eq_zero_of_dvd h6)
          · exact .inr h
        case measure => omega
    · have hleb : decide ((PP : Int) ≤ (n : Int)) = false := decide_eq_false (by omega)
      have hend : c = 0 ∧ ¬ SqF n ∨ c = 7 ∧ SqF n := by
        rcases HI.out.2 with ⟨h1, h2⟩ | h
        · refine .inl ⟨h1, ?_⟩
          rintro ⟨p', h3, h4⟩
          have h5 : p' < p := by
            rcases Nat.lt_or_ge p' p with h6 | h6
            · exact h6
            · have h7 := Nat.mul_le_mul h6 h6
              have h8 := Nat.le_of_dvd (by have := HN.out; omega) h4
              have h9 := HPP.out
              omega
          exact h2 p' h3 h5 h4
        · exact .inr h

      obtain rfl : c = 0 := by rcases hend with ⟨h1, h2⟩ | ⟨h1, h2⟩ <;> first | exact h1 | exact absurd h2 HS.out | exact absurd HS.out h2
      have HM9 : Hid (Bx w wr [(w2.heap.size, [.int .i64 0, .int .i64 0]), (w1.heap.size, [.int .i64 0, .int .i64 0])]) := HI.out.1
      clear hend HI
      have a0 := (HM9.out.cl w2.heap.size [.int .i64 0, .int .i64 0] (by simp)).cell 0
      have a1 := (HM9.out.cl w2.heap.size [.int .i64 0, .int .i64 0] (by simp)).cell 1
      have d0 := (HM9.out.cl w1.heap.size [.int .i64 0, .int .i64 0] (by simp)).cell 0
      have d1 := (HM9.out.cl w1.heap.size [.int .i64 0, .int .i64 0] (by simp)).cell 1
      simp only [List.getElem?_cons_zero, List.getElem?_cons_succ] at a0 a1 d0 d1
      have HB0 : Hid (Bo w wr w.heap.size [] [] []) := Bo.start HM9.out.k
      go_wp2_with fail
      refine (HDx.out _).mono ?_
      rintro e wn1 ⟨bp, rfl, mn2⟩
      have HG3 : Hid _ := HB0.out.made ⟨mn2.1, mn2.2.1, mn2.2.2⟩
      clear mn2 HB0
      clear a0 a1 d0 d1
      go_wp2_with fail
      refine (HDy.out _).mono ?_
      rintro e wn4 ⟨bq, rfl, mn5⟩
      have HG6 : Hid _ := HG3.out.made ⟨mn5.1, mn5.2.1, mn5.2.2⟩
      clear mn5 HG3
      go_wp2_with fail
      refine (Sign_any bq (UY : Int) _ (HG6.out.big (bq, (UY : Int)) (by simp))).mono ?_
      rintro e wsg ⟨rfl, hwsg⟩
      rw [hwsg, HSg.out]
      clear hwsg wsg
      go_wp2_with fail
      refine (Bit_nat bp UX 0 1000 _ (HG6.out.big (bp, (UX : Int)) (by simp)) HSz.out.1 (by omega) (by omega)).mono ?_
      rintro e wn7 ⟨rfl, qn8, hw9⟩
      have HG10 : Hid _ := HG6.out.drewE hw9
      clear hw9 HG6
      rw [HPar.out.1]
      go_wp2_with fail
      refine (Bit_nat bq UY 0 1000 _ (HG10.out.big (bq, (UY : Int)) (by simp)) HSz.out.2.1 (by omega) (by omega)).mono ?_
      rintro e wn11 ⟨rfl, qn12, hw13⟩
      have HG14 : Hid _ := HG10.out.drewE hw13
      clear hw13 HG10
      rw [HPar.out.2]
      go_wp2_with fail
      refine (Bit_nat bp UX 0 1000 _ (HG14.out.big (bp, (UX : Int)) (by simp)) HSz.out.1 (by omega) (by omega)).mono ?_
      rintro e wn15 ⟨rfl, qn16, hw17⟩
      have HG18 : Hid _ := HG14.out.drewE hw17
      clear hw17 HG14
      rw [HPar.out.1]
      go_wp2_with fail
      refine (Bit_nat bq UY 0 1000 _ (HG18.out.big (bq, (UY : Int)) (by simp)) HSz.out.2.1 (by omega) (by omega)).mono ?_
      rintro e wn19 ⟨rfl, qn20, hw21⟩
      have HG22 : Hid _ := HG18.out.drewE hw21
      clear hw21 HG18
      rw [HPar.out.2]
      have HG23 : Hid _ := HG22.out.alloc2
      clear HG22
      go_wp2_with fail
      refine (Mul_any (wn19.heap.size + 1) (bp) (bp) (UX : Int) (UX : Int) 1000 1000 _ (HG23.out.fr _ (by simp)) (HG23.out.big (bp, (UX : Int)) (by simp)) (HG23.out.big (bp, (UX : Int)) (by simp)) (by rw [Int.natAbs_natCast]; exact HSz.out.1) (by rw [Int.natAbs_natCast]; exact HSz.out.1) (by omega) (by omega)).mono ?_
      rintro e wn24 ⟨rfl, hb25, un26⟩
      rw [← Int.natCast_mul] at hb25
      have HG27 : Hid _ := HG23.out.give hb25 un26
      clear hb25 un26 HG23
      have HG28 : Hid _ := HG27.out.alloc
      clear HG27
      go_wp2_with fail
      refine (B_any (n : Int) _ (by omega) (by omega)).mono ?_
      rintro e wn30 ⟨bn29, rfl, mn31⟩
      have HG32 : Hid _ := HG28.out.made mn31
      clear mn31 HG28
      have HG33 : Hid _ := HG32.out.alloc
      clear HG32
      go_wp2_with fail
      refine (Mul_any (wn30.heap.size) (bq) (bq) (UY : Int) (UY : Int) 1000 1000 _ (HG33.out.fr _ (by simp)) (HG33.out.big (bq, (UY : Int)) (by simp)) (HG33.out.big (bq, (UY : Int)) (by simp)) (by rw [Int.natAbs_natCast]; exact HSz.out.2.1) (by rw [Int.natAbs_natCast]; exact HSz.out.2.1) (by omega) (by omega)).mono ?_
      rintro e wn34 ⟨rfl, hb35, un36⟩
      rw [← Int.natCast_mul] at hb35
      have HG37 : Hid _ := HG33.out.give hb35 un36
      clear hb35 un36 HG33
      go_wp2_with fail
      refine (Mul_any (wn24.heap.size) (bn29) (wn30.heap.size) (n : Int) ((UY * UY : Nat) : Int) 1 2000 _ (HG37.out.fr _ (by simp)) (HG37.out.big (bn29, (n : Int)) (by simp)) (HG37.out.own (wn30.heap.size, ((UY * UY : Nat) : Int)) (by simp)) (by rw [Int.natAbs_natCast]; exact HSz.out.2.2) (by rw [Int.natAbs_natCast]; exact mulpw (m := 1000) (n := 1000) (by omega) HSz.out.2.1 HSz.out.2.1) (by omega) (by omega)).mono ?_
      rintro e wn38 ⟨rfl, hb39, un40⟩
      rw [← Int.natCast_mul] at hb39
      have HG41 : Hid _ := HG37.out.give hb39 un40
      clear hb39 un40 HG37
      go_wp2_with fail
      refine (Sub_any (wn19.heap.size) (wn19.heap.size + 1) (wn24.heap.size) ((UX * UX : Nat) : Int) ((n * (UY * UY) : Nat) : Int) 2000 2001 _ (HG41.out.fr _ (by simp)) (HG41.out.own (wn19.heap.size + 1, ((UX * UX : Nat) : Int)) (by simp)) (HG41.out.own (wn24.heap.size, ((n * (UY * UY) : Nat) : Int)) (by simp)) (by rw [Int.natAbs_natCast]; exact mulpw (m := 1000) (n := 1000) (by omega) HSz.out.1 HSz.out.1) (by rw [Int.natAbs_natCast]; exact mulpw (m := 1) (n := 2000) (by omega) HSz.out.2.2 (mulpw (m := 1000) (n := 1000) (by omega) HSz.out.2.1 HSz.out.2.1)) (by omega) (by omega)).mono ?_
      rintro e wn42 ⟨rfl, hb43, un44⟩
      rw [ua_m HUA.out] at hb43
      have HG45 : Hid _ := HG41.out.give hb43 un44
      clear hb43 un44 HG41
      go_wp2_with fail
      refine (B_any (-4) _ (by omega) (by omega)).mono ?_
      rintro e wn47 ⟨bn46, rfl, mn48⟩
      have HG49 : Hid _ := HG45.out.made mn48
      clear mn48 HG45
      go_wp2_with fail
      refine (Cmp_any (wn19.heap.size) (bn46) (-4) (-4) 1 1 _ (HG49.out.own (wn19.heap.size, (-4)) (by simp)) (HG49.out.big (bn46, (-4)) (by simp)) (by decide) (by decide) (by omega) (by omega)).mono ?_
      rintro e wn50 ⟨rfl, qn51, hw52⟩
      have HG53 : Hid _ := HG49.out.drewE hw52
      clear hw52 HG49
      rw [cmpZ_self]
      have HG54 : Hid _ := HG53.out.sub (L' := [(bq, (UY : Int)), (bp, (UX : Int))]) (by simp)
      clear HG53
      have HG55 : Hid _ := HG54.out.drop.drop.drop.drop
      clear HG54
      go_wp2_with fail
      refine (HLu.out _).mono ?_
      rintro e wl ⟨hlu, kl⟩
      have HGl : Hid (Bo w wl w.heap.size [(bq, (UY : Int)), (bp, (UX : Int))] [] []) := HG55.out.below kl
      clear kl HG55
      rcases hlu with ⟨a, b, s, rfl, hab, hb300, ha6, hmb, hms⟩ | ⟨rfl, hno⟩
      · obtain ⟨rfl, rfl, rfl⟩ : a = UX ∧ b = UY ∧ s = (-1) := by
          have h1 := HMin.out a b s hab
          have h2 := hmb UX UY (-1) HUA.out
          have e1 : b = UY := by omega
          subst e1
          rcases h1.2 with h3 | h3
          · exact h3
          · exfalso
            have h5 := hms UX (-1) HUA.out
            exact ua_less h3 h5 HUA.out hab
        clear hab hmb hms
        go_wp2_with fail
        refine (B_any (a : Int) _ (by omega) (by omega)).mono ?_
        rintro e wn102 ⟨bn101, rfl, mn103⟩
        have HG104 : Hid _ := HGl.out.made mn103
        clear mn103 HGl
        go_wp2_with fail
        refine (Cmp_any (bp) (bn101) (a : Int) (a : Int) 1000 1000 _ (HG104.out.big (bp, (a : Int)) (by simp)) (HG104.out.big (bn101, (a : Int)) (by simp)) (by rw [Int.natAbs_natCast]; exact HSz.out.1) (by rw [Int.natAbs_natCast]; exact HSz.out.1) (by omega) (by omega)).mono ?_
        rintro e wn105 ⟨rfl, qn106, hw107⟩
        have HG108 : Hid _ := HG104.out.drewE hw107
        clear hw107 HG104
        rw [cmpZ_self]
        go_wp2_with fail
        refine (B_any (b : Int) _ (by omega) (by omega)).mono ?_
        rintro e wn110 ⟨bn109, rfl, mn111⟩
        have HG112 : Hid _ := HG108.out.made mn111
        clear mn111 HG108
        go_wp2_with fail
        refine (Cmp_any (bq) (bn109) (b : Int) (b : Int) 1000 1000 _ (HG112.out.big (bq, (b : Int)) (by simp)) (HG112.out.big (bn109, (b : Int)) (by simp)) (by rw [Int.natAbs_natCast]; exact HSz.out.2.1) (by rw [Int.natAbs_natCast]; exact HSz.out.2.1) (by omega) (by omega)).mono ?_
        rintro e wn113 ⟨rfl, qn114, hw115⟩
        have HG116 : Hid _ := HG112.out.drewE hw115
        clear hw115 HG112
        rw [cmpZ_self]
        go_wp2
        go_ret
        exact ⟨rfl, HG116.out.bel⟩
      · have HY3 : Hid (300 < UY) := hno UX UY (-1) HUA.out
        clear hno
        by_cases h3 : 3000 < n
        · have h3b : decide ((3000 : Int) < (n : Int)) = true := decide_eq_true (by omega)
          have HCz : Hid (cmpZ (UY : Int) 300 = 1) := by
            show _ = _
            have := HY3.out
            unfold cmpZ; rw [if_neg (by omega), if_pos (by omega)]
          go_wp2_with fail
          refine (B_any 300 _ (by omega) (by omega)).mono ?_
          rintro e wn202 ⟨bn201, rfl, mn203⟩
          have HG204 : Hid _ := HGl.out.made mn203
          clear mn203 HGl
          go_wp2_with fail
          refine (Cmp_any (bq) (bn201) (UY : Int) 300 1000 1000 _ (HG204.out.big (bq, (UY : Int)) (by simp)) (HG204.out.big (bn201, 300) (by simp)) (by rw [Int.natAbs_natCast]; exact HSz.out.2.1) (by exact Nat.lt_of_lt_of_le (show (300 : Int).natAbs < pw 1 by decide) (pw_le (by omega))) (by omega) (by omega)).mono ?_
          rintro e wn205 ⟨rfl, qn206, hw207⟩
          have HG208 : Hid _ := HG204.out.drewE hw207
          clear hw207 HG204
          rw [HCz.out]
          go_wp2
          go_ret
          exact ⟨rfl, HG208.out.bel⟩
        · have h3b : decide ((3000 : Int) < (n : Int)) = false := decide_eq_false (by omega)
          obtain ⟨u, v, hcy, K, hK1, hK2, hK3⟩ := HMt.out (by omega)
          have HKm : Hid (upn n UX UY K = (2 * u, 2 * v) ∧ ∀ k, k < K → upn n UX UY k ≠ (2 * u, 2 * v)) := ⟨hK2, hK3⟩
          have HCy : Hid (∀ w, Calls Tryz.prog 25 #[.int .i64 (n : Int)] w fun e w' => ∃ ba bb, e = .returned (.tuple #[.pointer (some ⟨ba, 0, none⟩), .pointer (some ⟨bb, 0, none⟩)]) ∧ BigAt w' ba (u : Int) ∧ BigAt w' bb (v : Int) ∧ u < pw 201 ∧ v < pw 201 ∧ Below w.heap.size w w') := fun w => Cycled_any n r (u, v) w HRn.out (by omega) hcy
          clear hcy hK2 hK3
          go_wp2_with fail
          refine (HCy.out _).mono ?_
          rintro e wc ⟨bu, bv, rfl, hu, hv, hu2, hv2, kc⟩
          have HUV : Hid (u < pw 201 ∧ v < pw 201) := ⟨hu2, hv2⟩
          have HGc : Hid (Bo w wc w.heap.size [(bv, (v : Int)), (bu, (u : Int)), (bq, (UY : Int)), (bp, (UX : Int))] [] []) := ((HGl.out.below kc).also hu).also hv
          clear hu hv hu2 hv2 kc HGl HCy
          have HG301 : Hid _ := HGc.out.alloc
          clear HGc
          go_wp2_with fail
          refine (Set_any (wc.heap.size) bp (UX : Int) 1000 _ (HG301.out.fr _ (by simp)) (HG301.out.big (bp, (UX : Int)) (by simp)) (by rw [Int.natAbs_natCast]; exact HSz.out.1) (by omega)).mono ?_
          rintro e wn302 ⟨rfl, hb303, un304⟩
          have HG305 : Hid _ := (HG301.out.give hb303 un304).keep
          clear hb303 un304 HG301
          have HG306 : Hid _ := HG305.out.alloc
          clear HG305
          go_wp2_with fail
          refine (Set_any (wn302.heap.size) bq (UY : Int) 1000 _ (HG306.out.fr _ (by simp)) (HG306.out.big (bq, (UY : Int)) (by simp)) (by rw [Int.natAbs_natCast]; exact HSz.out.2.1) (by omega)).mono ?_
          rintro e wn307 ⟨rfl, hb308, un309⟩
          have HG310 : Hid _ := (HG306.out.give hb308 un309).keep
          clear hb308 un309 HG306
          go_wp2
          go_loopg [20, 21, 22, 23] (K + 1) (fun g v20 v21 v22 _ wx => ∃ (j bc be : Nat), v20 = .pointer (some ⟨bc, 0, none⟩) ∧ v21 = .pointer (some ⟨be, 0, none⟩) ∧ v22 = .int .i64 ((j : Int) + 1) ∧ j + g = K + 1 ∧ 1 ≤ g ∧ Hid (Bo w wx w.heap.size [(be, ((upn n UX UY j).2 : Int)), (bc, ((upn n UX UY j).1 : Int)), (bv, (v : Int)), (bu, (u : Int)), (bq, (UY : Int)), (bp, (UX : Int))] [] []))
          case atStart => exact ⟨0, wc.heap.size, wn302.heap.size, rfl, rfl, rfl, by omega, by omega, HG310.out⟩
          case round =>
            clear HG310
            obtain ⟨j, bc, be, rfl, rfl, rfl, hjg, hg1, HG0⟩ := hrel
            have hj6 : decide ((j : Int) + 1 ≤ 6) = true := decide_eq_true (by omega)
            have hsz := upn_lt HSz.out.1 HSz.out.2.1 HSz.out.2.2 j
            obtain ⟨C, hC⟩ : ∃ C, C = (upn n UX UY j).1 := ⟨_, rfl⟩
            obtain ⟨E, hE⟩ : ∃ E, E = (upn n UX UY j).2 := ⟨_, rfl⟩
            have hsz2 : C < pw 7000 ∧ E < pw 7000 := by
              rw [hC, hE]
              exact ⟨Nat.lt_of_lt_of_le hsz.1 (pw_le (by omega)), Nat.lt_of_lt_of_le hsz.2 (pw_le (by omega))⟩
            have HCE : Hid (C = (upn n UX UY j).1 ∧ E = (upn n UX UY j).2 ∧ C < pw 7000 ∧ E < pw 7000) := ⟨hC, hE, hsz2.1, hsz2.2⟩
            have HG1 : Hid (Bo w wr w.heap.size [(be, (E : Int)), (bc, (C : Int)), (bv, (v : Int)), (bu, (u : Int)), (bq, (UY : Int)), (bp, (UX : Int))] [] []) := by
              have h := HG0.out
              rw [← hC, ← hE] at h; exact h
            have HUC : Hid (∀ k, k = j → upn n UX UY k = (C, E)) := by
              rintro k rfl
              rw [hC, hE]
            clear hC hE hsz hsz2 HG0
            have HG401 : Hid _ := HG1.out.alloc
            clear HG1
            go_wp2_with fail
            refine (B_any 2 _ (by omega) (by omega)).mono ?_
            rintro e wn403 ⟨bn402, rfl, mn404⟩
            have HG405 : Hid _ := HG401.out.made mn404
            clear mn404 HG401
            go_wp2_with fail
            refine (Mul_any (wr.heap.size) (bn402) (bu) 2 (u : Int) 1 201 _ (HG405.out.fr _ (by simp)) (HG405.out.big (bn402, 2) (by simp)) (HG405.out.big (bu, (u : Int)) (by simp)) (by decide) (by rw [Int.natAbs_natCast]; exact HUV.out.1) (by omega) (by omega)).mono ?_
            rintro e wn406 ⟨rfl, hb407, un408⟩
            rw [two_cast] at hb407
            have HG409 : Hid _ := HG405.out.give hb407 un408
            clear hb407 un408 HG405
            go_wp2_with fail
            refine (Cmp_any (bc) (wr.heap.size) (C : Int) ((2 * u : Nat) : Int) 7000 1000 _ (HG409.out.big (bc, (C : Int)) (by simp)) (HG409.out.own (wr.heap.size, ((2 * u : Nat) : Int)) (by simp)) (by rw [Int.natAbs_natCast]; exact HCE.out.2.2.1) (by rw [Int.natAbs_natCast]; exact Nat.lt_of_lt_of_le (mulpw (m := 1) (n := 201) rfl (show 2 < pw 1 by decide) HUV.out.1) (pw_le (by omega))) (by omega) (by omega)).mono ?_
            rintro e wn410 ⟨rfl, qn411, hw412⟩
            have HG413 : Hid _ := HG409.out.drewE hw412
            clear hw412 HG409
            have HG414 : Hid _ := HG413.out.drop
            clear HG413
            have HG415 : Hid _ := HG414.out.sub (L' := [(be, (E : Int)), (bc, (C : Int)), (bv, (v : Int)), (bu, (u : Int)), (bq, (UY : Int)), (bp, (UX : Int))]) (by simp)
            clear HG414
            by_cases hc : C = 2 * u
            · have hz0 : (cmpZ (C : Int) ((2 * u : Nat) : Int) == 0) = true := by rw [hc, cmpZ_self]; rfl
              generalize hcz : cmpZ (C : Int) ((2 * u : Nat) : Int) = cz at hz0 ⊢
              clear hcz
              have HG416 : Hid _ := HG415.out.alloc
              clear HG415
              go_wp2_with fail
              refine (B_any 2 _ (by omega) (by omega)).mono ?_
              rintro e wn418 ⟨bn417, rfl, mn419⟩
              have HG420 : Hid _ := HG416.out.made mn419
              clear mn419 HG416
              go_wp2_with fail
              refine (Mul_any (wn410.heap.size) (bn417) (bv) 2 (v : Int) 1 201 _ (HG420.out.fr _ (by simp)) (HG420.out.big (bn417, 2) (by simp)) (HG420.out.big (bv, (v : Int)) (by simp)) (by decide) (by rw [Int.natAbs_natCast]; exact HUV.out.2) (by omega) (by omega)).mono ?_
              rintro e wn421 ⟨rfl, hb422, un423⟩
              rw [two_cast] at hb422
              have HG424 : Hid _ := HG420.out.give hb422 un423
              clear hb422 un423 HG420
              go_wp2_with fail
              refine (Cmp_any (be) (wn410.heap.size) (E : Int) ((2 * v : Nat) : Int) 7000 1000 _ (HG424.out.big (be, (E : Int)) (by simp)) (HG424.out.own (wn410.heap.size, ((2 * v : Nat) : Int)) (by simp)) (by rw [Int.natAbs_natCast]; exact HCE.out.2.2.2) (by rw [Int.natAbs_natCast]; exact Nat.lt_of_lt_of_le (mulpw (m := 1) (n := 201) rfl (show 2 < pw 1 by decide) HUV.out.2) (pw_le (by omega))) (by omega) (by omega)).mono ?_
              rintro e wn425 ⟨rfl, qn426, hw427⟩
              have HG428 : Hid _ := HG424.out.drewE hw427
              clear hw427 HG424
              have HG429 : Hid _ := HG428.out.drop
              clear HG428
              have HG430 : Hid _ := HG429.out.sub (L' := [(be, (E : Int)), (bc, (C : Int)), (bv, (v : Int)), (bu, (u : Int)), (bq, (UY : Int)), (bp, (UX : Int))]) (by simp)
              clear HG429
              by_cases he : E = 2 * v
              · have hy0 : (cmpZ (E : Int) ((2 * v : Nat) : Int) == 0) = true := by rw [he, cmpZ_self]; rfl
                generalize hcy2 : cmpZ (E : Int) ((2 * v : Nat) : Int) = cy at hy0 ⊢
                clear hcy2
                have hjK : j = K := by
                  rcases Nat.lt_or_ge j K with c | c
                  · exact absurd (by rw [HUC.out j rfl, hc, he]) (HKm.out.2 j c)
                  · omega
                have HB9 : Hid (Below w.heap.size w wn425) := HG430.out.bel
                subst hjK
                clear hc he
                rcases hK1 with h | h | h | h <;> subst h
                all_goals
                  go_wp2
                  go_ret
                  exact ⟨rfl, HB9.out⟩
              · have hy0 := cmpZ_ne he
                generalize hcy2 : cmpZ (E : Int) ((2 * v : Nat) : Int) = cy at hy0 ⊢
                clear hcy2
                have HLt : Hid (j < K) := by
                  show _ < _
                  rcases Nat.lt_or_ge j K with c | c
                  · exact c
                  · exfalso
                    obtain rfl : j = K := by omega
                    have h1 := HKm.out.1
                    rw [HUC.out j rfl] at h1
                    simp only [Prod.mk.injEq] at h1
                    exact he h1.2
                clear hc he
                have HG431 : Hid _ := HG430.out.alloc2
                clear HG430
                go_wp2_with fail
                refine (Mul_any (wn425.heap.size + 1) (bc) (bp) (C : Int) (UX : Int) 7000 1000 _ (HG431.out.fr _ (by simp)) (HG431.out.big (bc, (C : Int)) (by simp)) (HG431.out.big (bp, (UX : Int)) (by simp)) (by rw [Int.natAbs_natCast]; exact HCE.out.2.2.1) (by rw [Int.natAbs_natCast]; exact HSz.out.1) (by omega) (by omega)).mono ?_
                rintro e wn432 ⟨rfl, hb433, un434⟩
                rw [← Int.natCast_mul] at hb433
                have HG435 : Hid _ := HG431.out.give hb433 un434
                clear hb433 un434 HG431
                have HG436 : Hid _ := HG435.out.alloc
                clear HG435
                go_wp2_with fail
                refine (B_any (n : Int) _ (by omega) (by omega)).mono ?_
                rintro e wn438 ⟨bn437, rfl, mn439⟩
                have HG440 : Hid _ := HG436.out.made mn439
                clear mn439 HG436
                have HG441 : Hid _ := HG440.out.alloc
                clear HG440
                go_wp2_with fail
                refine (Mul_any (wn438.heap.size) (be) (bq) (E : Int) (UY : Int) 7000 1000 _ (HG441.out.fr _ (by simp)) (HG441.out.big (be, (E : Int)) (by simp)) (HG441.out.big (bq, (UY : Int)) (by simp)) (by rw [Int.natAbs_natCast]; exact HCE.out.2.2.2) (by rw [Int.natAbs_natCast]; exact HSz.out.2.1) (by omega) (by omega)).mono ?_
                rintro e wn442 ⟨rfl, hb443, un444⟩
                rw [← Int.natCast_mul] at hb443
                have HG445 : Hid _ := HG441.out.give hb443 un444
                clear hb443 un444 HG441
                go_wp2_with fail
                refine (Mul_any (wn432.heap.size) (bn437) (wn438.heap.size) (n : Int) ((E * UY : Nat) : Int) 1 8000 _ (HG445.out.fr _ (by simp)) (HG445.out.big (bn437, (n : Int)) (by simp)) (HG445.out.own (wn438.heap.size, ((E * UY : Nat) : Int)) (by simp)) (by rw [Int.natAbs_natCast]; exact HSz.out.2.2) (by rw [Int.natAbs_natCast]; exact mulpw (m := 7000) (n := 1000) (by omega) HCE.out.2.2.2 HSz.out.2.1) (by omega) (by omega)).mono ?_
                rintro e wn446 ⟨rfl, hb447, un448⟩
                rw [← Int.natCast_mul] at hb447
                have HG449 : Hid _ := HG445.out.give hb447 un448
                clear hb447 un448 HG445
                go_wp2_with fail
                refine (Add_any (wn425.heap.size) (wn425.heap.size + 1) (wn432.heap.size) ((C * UX : Nat) : Int) ((n * (E * UY) : Nat) : Int) 8000 8001 _ (HG449.out.fr _ (by simp)) (HG449.out.own (wn425.heap.size + 1, ((C * UX : Nat) : Int)) (by simp)) (HG449.out.own (wn432.heap.size, ((n * (E * UY) : Nat) : Int)) (by simp)) (by rw [Int.natAbs_natCast]; exact mulpw (m := 7000) (n := 1000) (by omega) HCE.out.2.2.1 HSz.out.1) (by rw [Int.natAbs_natCast]; exact mulpw (m := 1) (n := 8000) (by omega) HSz.out.2.2 (mulpw (m := 7000) (n := 1000) (by omega) HCE.out.2.2.2 HSz.out.2.1)) (by omega) (by omega)).mono ?_
                rintro e wn450 ⟨rfl, hb451, un452⟩
                rw [← Int.natCast_add] at hb451
                have HG453 : Hid _ := HG449.out.give hb451 un452
                clear hb451 un452 HG449
                have HG454 : Hid _ := (((HG453.out).swap.drop).swap.drop).swap.drop
                clear HG453
                have HG455 : Hid _ := HG454.out.alloc2
                clear HG454
                go_wp2_with fail
                refine (Mul_any (wn450.heap.size + 1) (bc) (bq) (C : Int) (UY : Int) 7000 1000 _ (HG455.out.fr _ (by simp)) (HG455.out.big (bc, (C : Int)) (by simp)) (HG455.out.big (bq, (UY : Int)) (by simp)) (by rw [Int.natAbs_natCast]; exact HCE.out.2.2.1) (by rw [Int.natAbs_natCast]; exact HSz.out.2.1) (by omega) (by omega)).mono ?_
                rintro e wn456 ⟨rfl, hb457, un458⟩
                rw [← Int.natCast_mul] at hb457
                have HG459 : Hid _ := HG455.out.give hb457 un458
                clear hb457 un458 HG455
                have HG460 : Hid _ := HG459.out.alloc
                clear HG459
                go_wp2_with fail
                refine (Mul_any (wn456.heap.size) (be) (bp) (E : Int) (UX : Int) 7000 1000 _ (HG460.out.fr _ (by simp)) (HG460.out.big (be, (E : Int)) (by simp)) (HG460.out.big (bp, (UX : Int)) (by simp)) (by rw [Int.natAbs_natCast]; exact HCE.out.2.2.2) (by rw [Int.natAbs_natCast]; exact HSz.out.1) (by omega) (by omega)).mono ?_
                rintro e wn461 ⟨rfl, hb462, un463⟩
                rw [← Int.natCast_mul] at hb462
                have HG464 : Hid _ := HG460.out.give hb462 un463
                clear hb462 un463 HG460
                go_wp2_with fail
                refine (Add_any (wn450.heap.size) (wn450.heap.size + 1) (wn456.heap.size) ((C * UY : Nat) : Int) ((E * UX : Nat) : Int) 8000 8000 _ (HG464.out.fr _ (by simp)) (HG464.out.own (wn450.heap.size + 1, ((C * UY : Nat) : Int)) (by simp)) (HG464.out.own (wn456.heap.size, ((E * UX : Nat) : Int)) (by simp)) (by rw [Int.natAbs_natCast]; exact mulpw (m := 7000) (n := 1000) (by omega) HCE.out.2.2.1 HSz.out.2.1) (by rw [Int.natAbs_natCast]; exact mulpw (m := 7000) (n := 1000) (by omega) HCE.out.2.2.2 HSz.out.1) (by omega) (by omega)).mono ?_
                rintro e wn465 ⟨rfl, hb466, un467⟩
                rw [← Int.natCast_add] at hb466
                have HG468 : Hid _ := HG464.out.give hb466 un467
                clear hb466 un467 HG464
                have HG469 : Hid _ := ((HG468.out).swap.drop).swap.drop
                clear HG468
                have HG470 : Hid _ := HG469.out.swap
                clear HG469
                go_wp2_with fail
                refine (Rsh_nat (wn425.heap.size) (wn425.heap.size) (C * UX + n * (E * UY)) 1 9000 _ (slot_of (HG470.out.own (wn425.heap.size, ((C * UX + n * (E * UY) : Nat) : Int)) (by simp))) (HG470.out.own (wn425.heap.size, ((C * UX + n * (E * UY) : Nat) : Int)) (by simp)) (add_pw8 (mulpw (m := 7000) (n := 1000) (by omega) HCE.out.2.2.1 HSz.out.1) (mulpw (m := 1) (n := 8000) (by omega) HSz.out.2.2 (mulpw (m := 7000) (n := 1000) (by omega) HCE.out.2.2.2 HSz.out.2.1))) (by omega) (by omega)).mono ?_
                rintro e wn471 ⟨rfl, hb472, un473⟩
                rw [Nat.pow_one] at hb472
                have HG474 : Hid _ := HG470.out.turn hb472 un473
                clear hb472 un473 HG470
                have HG475 : Hid _ := HG474.out.swap
                clear HG474
                go_wp2_with fail
                refine (Rsh_nat (wn450.heap.size) (wn450.heap.size) (C * UY + E * UX) 1 9000 _ (slot_of (HG475.out.own (wn450.heap.size, ((C * UY + E * UX : Nat) : Int)) (by simp))) (HG475.out.own (wn450.heap.size, ((C * UY + E * UX : Nat) : Int)) (by simp)) (add_pw8 (mulpw (m := 7000) (n := 1000) (by omega) HCE.out.2.2.1 HSz.out.2.1) (Nat.lt_of_lt_of_le (mulpw (m := 7000) (n := 1000) rfl HCE.out.2.2.2 HSz.out.1) (pw_le (by omega)))) (by omega) (by omega)).mono ?_
                rintro e wn476 ⟨rfl, hb477, un478⟩
                rw [Nat.pow_one] at hb477
                have HG479 : Hid _ := HG475.out.turn hb477 un478
                clear hb477 un478 HG475
                have HFin : Hid (Bo w wn476 w.heap.size [(wn450.heap.size, ((upn n UX UY (j + 1)).2 : Int)), (wn425.heap.size, ((upn n UX UY (j + 1)).1 : Int)), (bv, (v : Int)), (bu, (u : Int)), (bq, (UY : Int)), (bp, (UX : Int))] [] []) := by
                  have h := (HG479.out.swap.keep.keep).sub (L' := [(wn450.heap.size, (((C * UY + E * UX) / 2 : Nat) : Int)), (wn425.heap.size, (((C * UX + n * (E * UY)) / 2 : Nat) : Int)), (bv, (v : Int)), (bu, (u : Int)), (bq, (UY : Int)), (bp, (UX : Int))]) (by simp)
                  have e1 : upn n UX UY (j + 1) = ((C * UX + n * (E * UY)) / 2, (C * UY + E * UX) / 2) := by
                    have e := HUC.out j rfl
                    simp only [upn, e]
                  rw [e1]; exact h
                clear HG479
                go_wp2
                go_roundg (gk - 1)
                case rel => exact ⟨j + 1, wn425.heap.size, wn450.heap.size, rfl, rfl, by congr 1, by omega, by have := HLt.out; omega, HFin.out⟩
                case measure => omega
            · have hz0 := cmpZ_ne hc
              generalize hcz : cmpZ (C : Int) ((2 * u : Nat) : Int) = cz at hz0 ⊢
              clear hcz
              have HLt : Hid (j < K) := by
                show _ < _
                rcases Nat.lt_or_ge j K with c | c
                · exact c
                · exfalso
                  obtain rfl : j = K := by omega
                  have h1 := HKm.out.1
                  rw [HUC.out j rfl] at h1
                  simp only [Prod.mk.injEq] at h1
                  exact hc h1.1
              clear hc
              have HG416 : Hid _ := HG415.out.alloc2
              clear HG415
              go_wp2_with fail
              refine (Mul_any (wn410.heap.size + 1) (bc) (bp) (C : Int) (UX : Int) 7000 1000 _ (HG416.out.fr _ (by simp)) (HG416.out.big (bc, (C : Int)) (by simp)) (HG416.out.big (bp, (UX : Int)) (by simp)) (by rw [Int.natAbs_natCast]; exact HCE.out.2.2.1) (by rw [Int.natAbs_natCast]; exact HSz.out.1) (by omega) (by omega)).mono ?_
              rintro e wn417 ⟨rfl, hb418, un419⟩
              rw [← Int.natCast_mul] at hb418
              have HG420 : Hid _ := HG416.out.give hb418 un419
              clear hb418 un419 HG416
              have HG421 : Hid _ := HG420.out.alloc
              clear HG420
              go_wp2_with fail
              refine (B_any (n : Int) _ (by omega) (by omega)).mono ?_
              rintro e wn423 ⟨bn422, rfl, mn424⟩
              have HG425 : Hid _ := HG421.out.made mn424
              clear mn424 HG421
              have HG426 : Hid _ := HG425.out.alloc
              clear HG425
              go_wp2_with fail
              refine (Mul_any (wn423.heap.size) (be) (bq) (E : Int) (UY : Int) 7000 1000 _ (HG426.out.fr _ (by simp)) (HG426.out.big (be, (E : Int)) (by simp)) (HG426.out.big (bq, (UY : Int)) (by simp)) (by rw [Int.natAbs_natCast]; exact HCE.out.2.2.2) (by rw [Int.natAbs_natCast]; exact HSz.out.2.1) (by omega) (by omega)).mono ?_
              rintro e wn427 ⟨rfl, hb428, un429⟩
              rw [← Int.natCast_mul] at hb428
              have HG430 : Hid _ := HG426.out.give hb428 un429
              clear hb428 un429 HG426
              go_wp2_with fail
              refine (Mul_any (wn417.heap.size) (bn422) (wn423.heap.size) (n : Int) ((E * UY : Nat) : Int) 1 8000 _ (HG430.out.fr _ (by simp)) (HG430.out.big (bn422, (n : Int)) (by simp)) (HG430.out.own (wn423.heap.size, ((E * UY : Nat) : Int)) (by simp)) (by rw [Int.natAbs_natCast]; exact HSz.out.2.2) (by rw [Int.natAbs_natCast]; exact mulpw (m := 7000) (n := 1000) (by omega) HCE.out.2.2.2 HSz.out.2.1) (by omega) (by omega)).mono ?_
              rintro e wn431 ⟨rfl, hb432, un433⟩
              rw [← Int.natCast_mul] at hb432
              have HG434 : Hid _ := HG430.out.give hb432 un433
              clear hb432 un433 HG430
              go_wp2_with fail
              refine (Add_any (wn410.heap.size) (wn410.heap.size + 1) (wn417.heap.size) ((C * UX : Nat) : Int) ((n * (E * UY) : Nat) : Int) 8000 8001 _ (HG434.out.fr _ (by simp)) (HG434.out.own (wn410.heap.size + 1, ((C * UX : Nat) : Int)) (by simp)) (HG434.out.own (wn417.heap.size, ((n * (E * UY) : Nat) : Int)) (by simp)) (by rw [Int.natAbs_natCast]; exact mulpw (m := 7000) (n := 1000) (by omega) HCE.out.2.2.1 HSz.out.1) (by rw [Int.natAbs_natCast]; exact mulpw (m := 1) (n := 8000) (by omega) HSz.out.2.2 (mulpw (m := 7000) (n := 1000) (by omega) HCE.out.2.2.2 HSz.out.2.1)) (by omega) (by omega)).mono ?_
              rintro e wn435 ⟨rfl, hb436, un437⟩
              rw [← Int.natCast_add] at hb436
              have HG438 : Hid _ := HG434.out.give hb436 un437
              clear hb436 un437 HG434
              have HG439 : Hid _ := (((HG438.out).swap.drop).swap.drop).swap.drop
              clear HG438
              have HG440 : Hid _ := HG439.out.alloc2
              clear HG439
              go_wp2_with fail
              refine (Mul_any (wn435.heap.size + 1) (bc) (bq) (C : Int) (UY : Int) 7000 1000 _ (HG440.out.fr _ (by simp)) (HG440.out.big (bc, (C : Int)) (by simp)) (HG440.out.big (bq, (UY : Int)) (by simp)) (by rw [Int.natAbs_natCast]; exact HCE.out.2.2.1) (by rw [Int.natAbs_natCast]; exact HSz.out.2.1) (by omega) (by omega)).mono ?_
              rintro e wn441 ⟨rfl, hb442, un443⟩
              rw [← Int.natCast_mul] at hb442
              have HG444 : Hid _ := HG440.out.give hb442 un443
              clear hb442 un443 HG440
              have HG445 : Hid _ := HG444.out.alloc
              clear HG444
              go_wp2_with fail
              refine (Mul_any (wn441.heap.size) (be) (bp) (E : Int) (UX : Int) 7000 1000 _ (HG445.out.fr _ (by simp)) (HG445.out.big (be, (E : Int)) (by simp)) (HG445.out.big (bp, (UX : Int)) (by simp)) (by rw [Int.natAbs_natCast]; exact HCE.out.2.2.2) (by rw [Int.natAbs_natCast]; exact HSz.out.1) (by omega) (by omega)).mono ?_
              rintro e wn446 ⟨rfl, hb447, un448⟩
              rw [← Int.natCast_mul] at hb447
              have HG449 : Hid _ := HG445.out.give hb447 un448
              clear hb447 un448 HG445
              go_wp2_with fail
              refine (Add_any (wn435.heap.size) (wn435.heap.size + 1) (wn441.heap.size) ((C * UY : Nat) : Int) ((E * UX : Nat) : Int) 8000 8000 _ (HG449.out.fr _ (by simp)) (HG449.out.own (wn435.heap.size + 1, ((C * UY : Nat) : Int)) (by simp)) (HG449.out.own (wn441.heap.size, ((E * UX : Nat) : Int)) (by simp)) (by rw [Int.natAbs_natCast]; exact mulpw (m := 7000) (n := 1000) (by omega) HCE.out.2.2.1 HSz.out.2.1) (by rw [Int.natAbs_natCast]; exact mulpw (m := 7000) (n := 1000) (by omega) HCE.out.2.2.2 HSz.out.1) (by omega) (by omega)).mono ?_
              rintro e wn450 ⟨rfl, hb451, un452⟩
              rw [← Int.natCast_add] at hb451
              have HG453 : Hid _ := HG449.out.give hb451 un452
              clear hb451 un452 HG449
              have HG454 : Hid _ := ((HG453.out).swap.drop).swap.drop
              clear HG453
              have HG455 : Hid _ := HG454.out.swap
              clear HG454
              go_wp2_with fail
              refine (Rsh_nat (wn410.heap.size) (wn410.heap.size) (C * UX + n * (E * UY)) 1 9000 _ (slot_of (HG455.out.own (wn410.heap.size, ((C * UX + n * (E * UY) : Nat) : Int)) (by simp))) (HG455.out.own (wn410.heap.size, ((C * UX + n * (E * UY) : Nat) : Int)) (by simp)) (add_pw8 (mulpw (m := 7000) (n := 1000) (by omega) HCE.out.2.2.1 HSz.out.1) (mulpw (m := 1) (n := 8000) (by omega) HSz.out.2.2 (mulpw (m := 7000) (n := 1000) (by omega) HCE.out.2.2.2 HSz.out.2.1))) (by omega) (by omega)).mono ?_
              rintro e wn456 ⟨rfl, hb457, un458⟩
              rw [Nat.pow_one] at hb457
              have HG459 : Hid _ := HG455.out.turn hb457 un458
              clear hb457 un458 HG455
              have HG460 : Hid _ := HG459.out.swap
              clear HG459
              go_wp2_with fail
              refine (Rsh_nat (wn435.heap.size) (wn435.heap.size) (C * UY + E * UX) 1 9000 _ (slot_of (HG460.out.own (wn435.heap.size, ((C * UY + E * UX : Nat) : Int)) (by simp))) (HG460.out.own (wn435.heap.size, ((C * UY + E * UX : Nat) : Int)) (by simp)) (add_pw8 (mulpw (m := 7000) (n := 1000) (by omega) HCE.out.2.2.1 HSz.out.2.1) (Nat.lt_of_lt_of_le (mulpw (m := 7000) (n := 1000) rfl HCE.out.2.2.2 HSz.out.1) (pw_le (by omega)))) (by omega) (by omega)).mono ?_
              rintro e wn461 ⟨rfl, hb462, un463⟩
              rw [Nat.pow_one] at hb462
              have HG464 : Hid _ := HG460.out.turn hb462 un463
              clear hb462 un463 HG460
              have HFin : Hid (Bo w wn461 w.heap.size [(wn435.heap.size, ((upn n UX UY (j + 1)).2 : Int)), (wn410.heap.size, ((upn n UX UY (j + 1)).1 : Int)), (bv, (v : Int)), (bu, (u : Int)), (bq, (UY : Int)), (bp, (UX : Int))] [] []) := by
                have h := (HG464.out.swap.keep.keep).sub (L' := [(wn435.heap.size, (((C * UY + E * UX) / 2 : Nat) : Int)), (wn410.heap.size, (((C * UX + n * (E * UY)) / 2 : Nat) : Int)), (bv, (v : Int)), (bu, (u : Int)), (bq, (UY : Int)), (bp, (UX : Int))]) (by simp)
                have e1 : upn n UX UY (j + 1) = ((C * UX + n * (E * UY)) / 2, (C * UY + E * UX) / 2) := by
                  have e := HUC.out j rfl
                  simp only [upn, e]
                rw [e1]; exact h
              clear HG464
              go_wp2
              go_roundg (gk - 1)
              case rel => exact ⟨j + 1, wn410.heap.size, wn435.heap.size, rfl, rfl, by congr 1, by omega, by have := HLt.out; omega, HFin.out⟩
              case measure => omega
end Go.Proofs.YtfbgblidlabipaaGreatDoor
