/- The contract of the reference's Joined. -/
import Derived.Test.YtknmfohipdjlpaaBigQ
import Derived.Test.YtknmfohipdjlpaaRefA
import Derived.Test.YtknmfohipdjlpaaWholeF
import Derived.Test.YtknmfohipdjlpaaWholeL
set_option linter.unusedSimpArgs false
set_option linter.unusedVariables false
namespace Go.Proofs.Ytknmfohipdjlpaa
open Go.RowKit

/-- One place joined, as the reference does it. -/
theorem join_ref {r m n : Nat} {a s v q : Int} (hr : r < m) (hn : 1 ≤ n) (hl : s * (m : Int) + v * (n : Int) = (Nat.gcd m n : Int)) (hd : a - (r : Int) = (Nat.gcd m n : Int) * q) :
    ∃ R : Nat, ((r : Int) + q * s * (m : Int)) % ((m : Int) * ((n / Nat.gcd m n : Nat) : Int)) = (R : Int) ∧ R < m * (n / Nat.gcd m n) ∧ (m : Int) ∣ (R : Int) - (r : Int) ∧ (n : Int) ∣ (R : Int) - a := by
  have hg0 : 0 < Nat.gcd m n := Nat.gcd_pos_of_pos_left _ (by omega)
  have hk0 : 0 < n / Nat.gcd m n := Nat.div_pos (Nat.le_of_dvd (by omega) (Nat.gcd_dvd_right m n)) hg0
  have hM0 : 0 < m * (n / Nat.gcd m n) := Nat.mul_pos (by omega) hk0
  have eM : (m : Int) * ((n / Nat.gcd m n : Nat) : Int) = ((m * (n / Nat.gcd m n) : Nat) : Int) := by simp
  have d1 : (m : Int) ∣ ((m * (n / Nat.gcd m n) : Nat) : Int) := by rw [← eM]; exact Int.dvd_mul_right ..
  have d2 : (n : Int) ∣ ((m * (n / Nat.gcd m n) : Nat) : Int) := by
    rw [← MathC.lcm_mul, Int.ofNat_dvd_left]; exact Nat.dvd_lcm_right _ _
  rw [eM]
  generalize m * (n / Nat.gcd m n) = M at *
  have h0 := Int.emod_nonneg ((r : Int) + q * s * (m : Int)) (show (M : Int) ≠ 0 by omega)
  have h1 := Int.emod_lt_of_pos ((r : Int) + q * s * (m : Int)) (show 0 < (M : Int) by omega)
  have h2 := Int.emod_add_mul_ediv ((r : Int) + q * s * (m : Int)) (M : Int)
  obtain ⟨R, hR⟩ := Int.eq_ofNat_of_zero_le h0
  rw [hR] at h1 h2
  refine ⟨R, hR, by omega, ?_, ?_⟩
  · have e : (R : Int) - (r : Int) = q * s * (m : Int) - (M : Int) * (((r : Int) + q * s * (m : Int)) / (M : Int)) := by omega
    rw [e]
    exact Int.dvd_sub (Int.dvd_mul_left ..) (Int.dvd_trans d1 (Int.dvd_mul_right ..))
  · have e1 : q * s * (m : Int) = (Nat.gcd m n : Int) * q - q * v * (n : Int) := by
      have h5 : q * s * (m : Int) + q * v * (n : Int) = q * (s * (m : Int) + v * (n : Int)) := by rw [Int.mul_add, Int.mul_assoc, Int.mul_assoc]
      have h6 : q * (s * (m : Int) + v * (n : Int)) = (Nat.gcd m n : Int) * q := by rw [hl, Int.mul_comm]
      omega
    have e : (R : Int) - a = -(q * v * (n : Int)) - (M : Int) * (((r : Int) + q * s * (m : Int)) / (M : Int)) := by omega
    rw [e]
    exact Int.dvd_sub (Int.dvd_neg.2 (Int.dvd_mul_left ..)) (Int.dvd_trans d2 (Int.dvd_mul_right ..))

theorem Sv.of_block {b : Nat} {c d : Int} {w w' : World} (h : Sv b c d w) (e : w'.heap[b]? = w.heap[b]?) (z : w.heap.size ≤ w'.heap.size) : Sv b c d w' :=
  ⟨(World.cell?_of_block e).trans h.c0, (World.cell?_of_block e).trans h.c1, (World.frozen?_of_block e).trans h.f0, (World.frozen?_of_block e).trans h.f1, Nat.lt_of_lt_of_le h.lt z⟩
theorem Sv.upd {b b' : Nat} {c d : Int} {w w' : World} (h : Sv b c d w) (u : Upd b' w w') (hne : b ≠ b') : Sv b c d w' := h.of_block (u.block b h.lt hne) u.size
theorem Sv.upd2 {b b' b'' : Nat} {c d : Int} {w w' : World} (h : Sv b c d w) (u : Upd2 b' b'' w w') (h1 : b ≠ b') (h2 : b ≠ b'') : Sv b c d w' := h.of_block (u.block b h.lt h1 h2) u.size

theorem lt_pwB {x : Int} (h : x.natAbs ≤ 4000000000000000000) : x.natAbs < pw 2 := by rw [pw_two]; omega
theorem pw_four : pw 4 = 340282366920938463463374607431768211456 := by decide

set_option maxHeartbeats 4000000 in
set_option maxRecDepth 100000 in
theorem Joined_any (s t : Value) (rs ms : List Int) (w : World) (hs : IS w s rs) (ht : IS w t ms) (hl1 : rs.length ≤ 9000000000000000000) (hl2 : ms.length ≤ 9000000000000000000) (hb1 : ∀ i, i < rs.length → -9223372036854775808 ≤ rs.getD i 0 ∧ rs.getD i 0 ≤ 9223372036854775807) (hb2 : ∀ i, i < ms.length → -9223372036854775808 ≤ ms.getD i 0 ∧ ms.getD i 0 ≤ 9223372036854775807) :
    Calls Try.prog 25 #[s, t] w fun e w' => ∃ R M c at' : Int, e = .returned (.tuple #[.int .i64 R, .int .i64 M, .agg #[.int .i64 c, .int .i64 at']]) ∧ JOut rs ms R M c at' ∧ Below w.heap.size w w' := by
  obtain ⟨a1, g1, o1, c1, rfl, p1, cell1, lt1⟩ := hs.shape
  obtain ⟨a2, g2, o2, c2, rfl, p2, cell2, lt2⟩ := ht.shape
  clear hs ht
  have P1 : Hid (0 < rs.length → a1 = some ⟨g1, o1, none⟩) := p1
  have P2 : Hid (0 < ms.length → a2 = some ⟨g2, o2, none⟩) := p2
  have C1 : Hid (∀ i, i < rs.length → w.cell? ⟨g1, o1 + i, none⟩ = some (.int .i64 (rs.getD i 0))) := cell1
  have C2 : Hid (∀ i, i < ms.length → w.cell? ⟨g2, o2 + i, none⟩ = some (.int .i64 (ms.getD i 0))) := cell2
  have L1 : Hid (0 < rs.length → g1 < w.heap.size) := lt1
  have L2 : Hid (0 < ms.length → g2 < w.heap.size) := lt2
  clear p1 p2 cell1 cell2 lt1 lt2
  by_cases hm : 1000 < rs.length ∨ 1000 < ms.length
  · have HO : Hid (JOut rs ms 0 0 2 0) := ⟨Or.inl ⟨hm, rfl, rfl, rfl, rfl⟩⟩
    by_cases hm1 : 1000 < rs.length
    · clear hm
      go_enter Try.func25, Try.ntmps25
      go_wp2_with fail
      refine (F_any 2 0 _).mono ?_
      rintro e w1 ⟨rfl, k1⟩
      obtain ⟨s0, s1, s2, s3, s4⟩ := (Sv.new 0 0 w).below k1
      have K1 : Hid (Below w.heap.size w w1) := (Below.alloc_self w _).trans (k1.mono (by simp))
      clear k1
      go_wp2
      refine bodyPost_ret (v := .tuple #[.int .i64 0, .int .i64 0, .agg #[.int .i64 2, .int .i64 0]]) (by simp [results, Try.results25, go_sem, s0, s1, s4]) rfl ⟨0, 0, 2, 0, rfl, HO.out, ?_⟩
      exact (K1.out.setCell (Nat.le_refl _) _).setCell (Nat.le_refl _) _
    · have hm2 : 1000 < ms.length := by omega
      clear hm
      go_enter Try.func25, Try.ntmps25
      go_wp2_with fail
      refine (F_any 2 0 _).mono ?_
      rintro e w1 ⟨rfl, k1⟩
      obtain ⟨s0, s1, s2, s3, s4⟩ := (Sv.new 0 0 w).below k1
      have K1 : Hid (Below w.heap.size w w1) := (Below.alloc_self w _).trans (k1.mono (by simp))
      clear k1
      go_wp2
      refine bodyPost_ret (v := .tuple #[.int .i64 0, .int .i64 0, .agg #[.int .i64 2, .int .i64 0]]) (by simp [results, Try.results25, go_sem, s0, s1, s4]) rfl ⟨0, 0, 2, 0, rfl, HO.out, ?_⟩
      exact (K1.out.setCell (Nat.le_refl _) _).setCell (Nat.le_refl _) _
  · have b1 : rs.length ≤ 1000 := by omega
    have b2 : ms.length ≤ 1000 := by omega
    clear hm hl1 hl2
    by_cases he : rs.length = ms.length
    · have t1 : ((rs.length : Int) != (ms.length : Int)) = false := by simp; omega
      have HE : Hid (rs.length = ms.length) := he
      have he1 : rs.length ≤ ms.length := by omega
      have he2 : ms.length ≤ rs.length := by omega
      clear he
      go_enter Try.func25, Try.ntmps25
      go_wp2_with fail
      refine (B_any 0 _ (by omega) (by omega)).mono ?_
      rintro e w1 ⟨br, rfl, q1, h1, k1⟩
      have z1 := k1.size
      simp at z1 q1
      have HR1 : Hid (BigAt w1 br 0) := h1
      have K1 : Hid (Below w.heap.size w w1) := (Below.alloc_self w _).trans (k1.mono (by simp))
      have S1 : Hid (Sv w.heap.size 0 0 w1) := (Sv.new 0 0 w).below k1
      clear h1 k1
      go_wp2_with fail
      refine (B_any 1 _ (by omega) (by omega)).mono ?_
      rintro e w2 ⟨bm, rfl, q2, h2, k2⟩
      have z2 := k2.size
      have HM2 : Hid (BigAt w2 bm 1) := h2
      have HR2 : Hid (BigAt w2 br 0) := HR1.out.below k2 (Nat.le_refl _)
      have K2 : Hid (Below w.heap.size w w2) := K1.out.trans (k2.mono (by omega))
      have S2 : Hid (Sv w.heap.size 0 0 w2) := S1.out.below k2
      clear h2 k2 HR1 K1 S1
      go_wp2_with fail
      go_loopw [7, 8, 9] (fun rv mv iv wx => ∃ k r m br bm : Nat, k ≤ rs.length ∧ iv = .int .i64 k ∧ rv = .pointer (some ⟨br, 0, none⟩) ∧ mv = .pointer (some ⟨bm, 0, none⟩) ∧ w.heap.size < br ∧ w.heap.size < bm ∧ Hid (MathC.JSt rs ms k r m ∧ BigAt wx br (r : Int) ∧ BigAt wx bm (m : Int) ∧ Sv w.heap.size 0 0 wx ∧ Below w.heap.size w wx)) (fun _ _ iv _ => rs.length - (intOf iv).toNat)
      case atStart => exact ⟨0, 0, 1, br, bm, Nat.zero_le _, rfl, rfl, rfl, by omega, by omega, MathC.jst_start rs ms, HR2.out, HM2.out, S2.out, K2.out⟩
      case round =>
        clear HR2 HM2 K2 S2
        obtain ⟨k, r, m, br, bm, hk, rfl, rfl, rfl, gr, gm, HH⟩ := hrel
        have HJ : Hid (MathC.JSt rs ms k r m) := HH.out.1
        have HR : Hid (BigAt wr br (r : Int)) := HH.out.2.1
        have HM : Hid (BigAt wr bm (m : Int)) := HH.out.2.2.1
        have HS : Hid (Sv w.heap.size 0 0 wr) := HH.out.2.2.2.1
        have HK : Hid (Below w.heap.size w wr) := HH.out.2.2.2.2
        have hrm := HJ.out.hi
        have hcap := HJ.out.cap
        have zr : w.heap.size < wr.heap.size := HS.out.lt
        have lr := HR.out.lt
        have lm := HM.out.lt
        clear HH
        by_cases hlt : k < rs.length
        · obtain rfl := P1.out (by omega)
          obtain rfl := P2.out (by omega)
          have lg1 := L1.out (by omega)
          have lg2 := L2.out (by omega)
          have q1 : wr.cell? ⟨g1, o1 + k, none⟩ = some (.int .i64 (rs.getD k 0)) := (HK.out.cell (p := ⟨g1, o1 + k, none⟩) lg1).trans (C1.out k hlt)
          have q2 : wr.cell? ⟨g2, o2 + k, none⟩ = some (.int .i64 (ms.getD k 0)) := (HK.out.cell (p := ⟨g2, o2 + k, none⟩) lg2).trans (C2.out k (by omega))
          have q3 := C1.out k hlt
          have bx := hb1 k hlt
          have by' := hb2 k (by omega)
          obtain ⟨x, hx⟩ : ∃ x, x = rs.getD k 0 := ⟨_, rfl⟩
          obtain ⟨y, hy⟩ : ∃ y, y = ms.getD k 0 := ⟨_, rfl⟩
          rw [← hx] at q1 q3 bx
          rw [← hy] at q2 by'
          have HX : Hid (x = rs.getD k 0) := hx
          have HY : Hid (y = ms.getD k 0) := hy
          have Q1 : Hid (w.cell? ⟨g1, o1 + k, none⟩ = some (.int .i64 x)) := q3
          clear hx hy q3
          by_cases hbad : numB x = false ∨ y < 1 ∨ 1000000000000000000 < y
          · have HO : Hid (JOut rs ms 0 0 3 k) := ⟨Or.inr (Or.inr (Or.inl ⟨b1, HE.out, k, r, m, 0, 0, hlt, HJ.out, rfl, rfl, rfl, by omega, ⟨Or.inl ⟨rfl, rfl, rfl, by rw [← HX.out, ← HY.out]; exact hbad⟩⟩⟩))⟩
            cases hnx : numB x
            · clear hbad
              go_wp2_with (go_at_call 21; refine (number_any _ _).mono ?_; rintro e w' ⟨rfl, rfl⟩)
              refine (F_any 3 (k : Int) _).mono ?_
              rintro e wF ⟨rfl, kF⟩
              obtain ⟨s0, s1, s2, s3, s4⟩ := HS.out.below kF
              have KF : Hid (Below w.heap.size w wF) := HK.out.trans (kF.mono (by omega))
              clear kF
              go_wp2
              refine bodyPost_ret (v := .tuple #[.int .i64 0, .int .i64 0, .agg #[.int .i64 3, .int .i64 k]]) (by simp [results, Try.results25, go_sem, s0, s1, s4]) rfl ⟨0, 0, 3, k, rfl, HO.out, ?_⟩
              exact (KF.out.setCell (Nat.le_refl _) _).setCell (Nat.le_refl _) _
            · by_cases hy1 : y < 1
              · clear hbad
                go_wp2_with (go_at_call 21; refine (number_any _ _).mono ?_; rintro e w' ⟨rfl, rfl⟩)
                refine (F_any 3 (k : Int) _).mono ?_
                rintro e wF ⟨rfl, kF⟩
                obtain ⟨s0, s1, s2, s3, s4⟩ := HS.out.below kF
                have KF : Hid (Below w.heap.size w wF) := HK.out.trans (kF.mono (by omega))
                clear kF
                go_wp2
                refine bodyPost_ret (v := .tuple #[.int .i64 0, .int .i64 0, .agg #[.int .i64 3, .int .i64 k]]) (by simp [results, Try.results25, go_sem, s0, s1, s4]) rfl ⟨0, 0, 3, k, rfl, HO.out, ?_⟩
                exact (KF.out.setCell (Nat.le_refl _) _).setCell (Nat.le_refl _) _
              · have hny : numB y = false := by
                  rcases hbad with h | h | h
                  · rw [hnx] at h; cases h
                  · omega
                  · simp [numB]; omega
                clear hbad
                go_wp2_with (go_at_call 21; refine (number_any _ _).mono ?_; rintro e w' ⟨rfl, rfl⟩)
                refine (F_any 3 (k : Int) _).mono ?_
                rintro e wF ⟨rfl, kF⟩
                obtain ⟨s0, s1, s2, s3, s4⟩ := HS.out.below kF
                have KF : Hid (Below w.heap.size w wF) := HK.out.trans (kF.mono (by omega))
                clear kF
                go_wp2
                refine bodyPost_ret (v := .tuple #[.int .i64 0, .int .i64 0, .agg #[.int .i64 3, .int .i64 k]]) (by simp [results, Try.results25, go_sem, s0, s1, s4]) rfl ⟨0, 0, 3, k, rfl, HO.out, ?_⟩
                exact (KF.out.setCell (Nat.le_refl _) _).setCell (Nat.le_refl _) _
          · have hnx : numB x = true := by cases h : numB x <;> simp_all
            have hxb := numB_true hnx
            obtain ⟨n, rfl⟩ := Int.eq_ofNat_of_zero_le (show 0 ≤ y by omega)
            have hny : numB (n : Int) = true := by simp [numB]; omega
            have hn1 : 1 ≤ n := by omega
            have hn2 : n ≤ 1000000000000000000 := by omega
            obtain ⟨G, gG⟩ : ∃ G, G = Nat.gcd m n := ⟨_, rfl⟩
            obtain ⟨N, gN⟩ : ∃ N, N = n / G := ⟨_, rfl⟩
            have hG0 : 0 < G := by rw [gG]; exact Nat.gcd_pos_of_pos_left _ (by omega)
            have hGn : G ≤ n := by rw [gG]; exact Nat.le_of_dvd (by omega) (Nat.gcd_dvd_right m n)
            have hN0 : 0 < N := by rw [gN]; exact Nat.div_pos hGn hG0
            have hNn : N ≤ n := by rw [gN]; exact Nat.div_le_self ..
            have HN1 : Hid ((n : Int).tdiv (G : Int) = (N : Int)) := by show _ = _; rw [gN, ← Int.ofNat_tdiv]
            have HGG : Hid (G = Nat.gcd m n) := gG
            have HNN : Hid (N = n / G) := gN
            clear gG gN hbad
            go_wp2_with (go_at_call 21; refine (number_any _ _).mono ?_; rintro e w' ⟨rfl, hw'⟩; rw [hw']; clear hw' w')
            obtain ⟨x1, hwx1⟩ : ∃ x, x = ((wr.alloc (.cells #[.bool false, .slice none 0 0] 49)).alloc (.cells #[.bool false, .slice none 0 0] 49)) := ⟨_, rfl⟩
            rw [← hwx1]
            have zx1 : x1.heap.size = wr.heap.size + 2 := by rw [hwx1]; simp
            have kx1 : Below wr.heap.size wr x1 := by rw [hwx1]; exact (two_new wr).2.2.1
            have Lx1R : Hid (BigAt x1 br (r : Int)) := HR.out.below kx1 (Nat.le_refl _)
            have Lx1M : Hid (BigAt x1 bm (m : Int)) := HM.out.below kx1 (Nat.le_refl _)
            have Zx1g : Hid (Slot x1 wr.heap.size) := by rw [hwx1]; exact (two_new wr).1
            have Zx1u : Hid (Slot x1 (wr.heap.size + 1)) := by rw [hwx1]; exact (two_new wr).2.1
            have Kx1 : Hid (Below w.heap.size w x1) := HK.out.trans (kx1.mono (by omega))
            have Sx1 : Hid (Sv w.heap.size 0 0 x1) := HS.out.below kx1
            clear HR HM HK HS hwx1 kx1
            refine (B_any (n : Int) _ (by omega) (by omega)).mono ?_
            rintro e x2 ⟨bx2, rfl, px2, ix2, kx2⟩
            have zx2 := kx2.size
            have lx2 := ix2.lt
            have Lx2R : Hid (BigAt x2 br (r : Int)) := Lx1R.out.below kx2 (Nat.le_refl _)
            have Lx2M : Hid (BigAt x2 bm (m : Int)) := Lx1M.out.below kx2 (Nat.le_refl _)
            have Zx2g : Hid (Slot x2 wr.heap.size) := Zx1g.out.below kx2 (Nat.le_refl _)
            have Zx2u : Hid (Slot x2 (wr.heap.size + 1)) := Zx1u.out.below kx2 (Nat.le_refl _)
            have Lx2n : Hid (BigAt x2 bx2 (n : Int)) := ix2
            have Kx2 : Hid (Below w.heap.size w x2) := Kx1.out.trans (kx2.mono (by omega))
            have Sx2 : Hid (Sv w.heap.size 0 0 x2) := Sx1.out.below kx2
            clear Lx1R Lx1M Zx1g Zx1u Kx1 Sx1 ix2 kx2
            go_wp2_with fail
            refine (GCD_any wr.heap.size (wr.heap.size + 1) bm bx2 m n _ Zx2g.out Zx2u.out (by omega) Lx2M.out Lx2n.out (by omega) (by omega) (by omega) (by omega)).mono ?_
            rintro e x3 ⟨s, v, rfl, ig, iu, hsb, hlin, u2⟩
            have zx3 := u2.size
            have Lx3R : Hid (BigAt x3 br (r : Int)) := Lx2R.out.upd2 u2 Zx2g.out Zx2u.out (by omega) (by omega)
            have Lx3M : Hid (BigAt x3 bm (m : Int)) := Lx2M.out.upd2 u2 Zx2g.out Zx2u.out (by omega) (by omega)
            have Lx3g : Hid (BigAt x3 wr.heap.size (G : Int)) := by show BigAt _ _ _; rw [HGG.out]; exact ig
            have Lx3u : Hid (BigAt x3 (wr.heap.size + 1) s) := iu
            have Kx3 : Hid (Below w.heap.size w x3) := Kx2.out.trans ⟨u2.os, u2.tape, u2.output, u2.size, fun k hk => u2.block k (by omega) (by omega) (by omega)⟩
            have Sx3 : Hid (Sv w.heap.size 0 0 x3) := Sx2.out.upd2 u2 (by omega) (by omega)
            have HLIN : Hid (s * (m : Int) + v * (n : Int) = (Nat.gcd m n : Int)) := hlin
            clear Lx2R Lx2M Lx2n Zx2g Zx2u Kx2 Sx2 ig iu u2 hlin
            have q1 : x3.cell? ⟨g1, o1 + k, none⟩ = some (.int .i64 x) := (Kx3.out.cell (p := ⟨g1, o1 + k, none⟩) lg1).trans Q1.out
            have hg1z : g1 < x3.heap.size := by omega
            go_wp2_with fail
            obtain ⟨x4, hwx4⟩ : ∃ x, x = (x3.alloc (.cells #[.bool false, .slice none 0 0] 49)) := ⟨_, rfl⟩
            rw [← hwx4]
            have zx4 : x4.heap.size = x3.heap.size + 1 := by rw [hwx4]; simp
            have kx4 : Below x3.heap.size x3 x4 := by rw [hwx4]; exact Below.alloc_self' _ _
            have Lx4R : Hid (BigAt x4 br (r : Int)) := Lx3R.out.below kx4 (Nat.le_refl _)
            have Lx4M : Hid (BigAt x4 bm (m : Int)) := Lx3M.out.below kx4 (Nat.le_refl _)
            have Lx4g : Hid (BigAt x4 wr.heap.size (G : Int)) := Lx3g.out.below kx4 (Nat.le_refl _)
            have Lx4u : Hid (BigAt x4 (wr.heap.size + 1) s) := Lx3u.out.below kx4 (Nat.le_refl _)
            have Zx4d : Hid (Slot x4 x3.heap.size) := by rw [hwx4]; exact slot_new x3 _ _
            have Kx4 : Hid (Below w.heap.size w x4) := Kx3.out.trans (kx4.mono (by omega))
            have Sx4 : Hid (Sv w.heap.size 0 0 x4) := Sx3.out.below kx4
            clear Lx3R Lx3M Lx3g Lx3u Kx3 Sx3 hwx4 kx4
            refine (B_any x _ (by omega) (by omega)).mono ?_
            rintro e x5 ⟨bx5, rfl, px5, ix5, kx5⟩
            have zx5 := kx5.size
            have lx5 := ix5.lt
            have Lx5R : Hid (BigAt x5 br (r : Int)) := Lx4R.out.below kx5 (Nat.le_refl _)
            have Lx5M : Hid (BigAt x5 bm (m : Int)) := Lx4M.out.below kx5 (Nat.le_refl _)
            have Lx5g : Hid (BigAt x5 wr.heap.size (G : Int)) := Lx4g.out.below kx5 (Nat.le_refl _)
            have Lx5u : Hid (BigAt x5 (wr.heap.size + 1) s) := Lx4u.out.below kx5 (Nat.le_refl _)
            have Zx5d : Hid (Slot x5 x3.heap.size) := Zx4d.out.below kx5 (Nat.le_refl _)
            have Lx5x : Hid (BigAt x5 bx5 x) := ix5
            have Kx5 : Hid (Below w.heap.size w x5) := Kx4.out.trans (kx5.mono (by omega))
            have Sx5 : Hid (Sv w.heap.size 0 0 x5) := Sx4.out.below kx5
            clear Lx4R Lx4M Lx4g Lx4u Zx4d Kx4 Sx4 ix5 kx5
            go_wp2_with fail
            refine (Sub_any x3.heap.size bx5 br x (r : Int) 2 2 _ Zx5d.out Lx5x.out Lx5R.out (lt_pwA (by omega)) (lt_pwA (by omega)) (by omega) (by omega)).mono ?_
            rintro e x6 ⟨rfl, ix6, ux6⟩
            have zx6 := ux6.size
            have Lx6R : Hid (BigAt x6 br (r : Int)) := Lx5R.out.upd ux6 Zx5d.out (by omega)
            have Lx6M : Hid (BigAt x6 bm (m : Int)) := Lx5M.out.upd ux6 Zx5d.out (by omega)
            have Lx6g : Hid (BigAt x6 wr.heap.size (G : Int)) := Lx5g.out.upd ux6 Zx5d.out (by omega)
            have Lx6u : Hid (BigAt x6 (wr.heap.size + 1) s) := Lx5u.out.upd ux6 Zx5d.out (by omega)
            have Lx6x : Hid (BigAt x6 bx5 x) := Lx5x.out.upd ux6 Zx5d.out (by omega)
            have Lx6d : Hid (BigAt x6 x3.heap.size (x - (r : Int))) := ix6
            have Kx6 : Hid (Below w.heap.size w x6) := Kx5.out.trans (ux6.below (by omega) (by omega))
            have Sx6 : Hid (Sv w.heap.size 0 0 x6) := Sx5.out.upd ux6 (by omega)
            clear Lx5R Lx5M Lx5g Lx5u Lx5x Zx5d Kx5 Sx5 ix6 ux6
            clear Lx6x
            go_wp2_with fail
            obtain ⟨x7, hwx7⟩ : ∃ x, x = (x6.alloc (.cells #[.bool false, .slice none 0 0] 49)) := ⟨_, rfl⟩
            rw [← hwx7]
            have zx7 : x7.heap.size = x6.heap.size + 1 := by rw [hwx7]; simp
            have kx7 : Below x6.heap.size x6 x7 := by rw [hwx7]; exact Below.alloc_self' _ _
            have Lx7R : Hid (BigAt x7 br (r : Int)) := Lx6R.out.below kx7 (Nat.le_refl _)
            have Lx7M : Hid (BigAt x7 bm (m : Int)) := Lx6M.out.below kx7 (Nat.le_refl _)
            have Lx7g : Hid (BigAt x7 wr.heap.size (G : Int)) := Lx6g.out.below kx7 (Nat.le_refl _)
            have Lx7u : Hid (BigAt x7 (wr.heap.size + 1) s) := Lx6u.out.below kx7 (Nat.le_refl _)
            have Lx7d : Hid (BigAt x7 x3.heap.size (x - (r : Int))) := Lx6d.out.below kx7 (Nat.le_refl _)
            have Zx7o : Hid (Slot x7 x6.heap.size) := by rw [hwx7]; exact slot_new x6 _ _
            have Kx7 : Hid (Below w.heap.size w x7) := Kx6.out.trans (kx7.mono (by omega))
            have Sx7 : Hid (Sv w.heap.size 0 0 x7) := Sx6.out.below kx7
            clear Lx6R Lx6M Lx6g Lx6u Lx6d Kx6 Sx6 hwx7 kx7
            refine (Mod_any x6.heap.size x3.heap.size wr.heap.size (x - (r : Int)) (G : Int) 2 2 _ Zx7o.out Lx7d.out Lx7g.out (by omega) (lt_pwB (by omega)) (lt_pwA (by omega)) (by omega) (by omega)).mono ?_
            rintro e x8 ⟨rfl, ix8, ux8⟩
            have zx8 := ux8.size
            have Lx8R : Hid (BigAt x8 br (r : Int)) := Lx7R.out.upd ux8 Zx7o.out (by omega)
            have Lx8M : Hid (BigAt x8 bm (m : Int)) := Lx7M.out.upd ux8 Zx7o.out (by omega)
            have Lx8g : Hid (BigAt x8 wr.heap.size (G : Int)) := Lx7g.out.upd ux8 Zx7o.out (by omega)
            have Lx8u : Hid (BigAt x8 (wr.heap.size + 1) s) := Lx7u.out.upd ux8 Zx7o.out (by omega)
            have Lx8d : Hid (BigAt x8 x3.heap.size (x - (r : Int))) := Lx7d.out.upd ux8 Zx7o.out (by omega)
            have Lx8o : Hid (BigAt x8 x6.heap.size ((x - (r : Int)) % (G : Int))) := ix8
            have Kx8 : Hid (Below w.heap.size w x8) := Kx7.out.trans (ux8.below (by omega) (by omega))
            have Sx8 : Hid (Sv w.heap.size 0 0 x8) := Sx7.out.upd ux8 (by omega)
            clear Lx7R Lx7M Lx7g Lx7u Lx7d Zx7o Kx7 Sx7 ix8 ux8
            go_wp2_with fail
            refine (Sign_any x6.heap.size _ _ Lx8o.out).mono ?_
            by_cases hdv : (G : Int) ∣ x - (r : Int)
            · rw [Int.emod_eq_zero_of_dvd hdv]
              have hsg : (0 : Int).sign = 0 := rfl
              rw [hsg]
              rintro e wS ⟨rfl, hwS⟩
              rw [hwS]
              clear hwS wS
              have HDV : Hid ((Nat.gcd m n : Int) ∣ x - (r : Int)) := by rw [← HGG.out]; exact hdv
              obtain ⟨q, hq⟩ := hdv
              have HQ : Hid (x - (r : Int) = (G : Int) * q) := hq
              have eq1 : (x - (r : Int)).tdiv (G : Int) = q := by rw [hq]; exact Int.mul_tdiv_cancel_left _ (by omega)
              have hqb : q.natAbs ≤ 3000000000000000000 := by rw [← eq1, Int.natAbs_tdiv]; exact Nat.le_trans (Nat.div_le_self ..) (by omega)
              have HE1 : Hid ((x - (r : Int)).tdiv (G : Int) = q) := eq1
              clear eq1 hq
              clear Lx8o
              go_wp2_with fail
              obtain ⟨x9, hwx9⟩ : ∃ x, x = (x8.alloc (.cells #[.bool false, .slice none 0 0] 49)) := ⟨_, rfl⟩
              rw [← hwx9]
              have zx9 : x9.heap.size = x8.heap.size + 1 := by rw [hwx9]; simp
              have kx9 : Below x8.heap.size x8 x9 := by rw [hwx9]; exact Below.alloc_self' _ _
              have Lx9R : Hid (BigAt x9 br (r : Int)) := Lx8R.out.below kx9 (Nat.le_refl _)
              have Lx9M : Hid (BigAt x9 bm (m : Int)) := Lx8M.out.below kx9 (Nat.le_refl _)
              have Lx9g : Hid (BigAt x9 wr.heap.size (G : Int)) := Lx8g.out.below kx9 (Nat.le_refl _)
              have Lx9u : Hid (BigAt x9 (wr.heap.size + 1) s) := Lx8u.out.below kx9 (Nat.le_refl _)
              have Lx9d : Hid (BigAt x9 x3.heap.size (x - (r : Int))) := Lx8d.out.below kx9 (Nat.le_refl _)
              have Zx9k : Hid (Slot x9 x8.heap.size) := by rw [hwx9]; exact slot_new x8 _ _
              have Kx9 : Hid (Below w.heap.size w x9) := Kx8.out.trans (kx9.mono (by omega))
              have Sx9 : Hid (Sv w.heap.size 0 0 x9) := Sx8.out.below kx9
              clear Lx8R Lx8M Lx8g Lx8u Lx8d Kx8 Sx8 hwx9 kx9
              refine (Quo_any x8.heap.size x3.heap.size wr.heap.size (x - (r : Int)) (G : Int) 2 2 _ Zx9k.out Lx9d.out Lx9g.out (by omega) (lt_pwB (by omega)) (lt_pwA (by omega)) (by omega) (by omega)).mono ?_
              rw [HE1.out]
              rintro e x10 ⟨rfl, ix10, ux10⟩
              have zx10 := ux10.size
              have Lx10R : Hid (BigAt x10 br (r : Int)) := Lx9R.out.upd ux10 Zx9k.out (by omega)
              have Lx10M : Hid (BigAt x10 bm (m : Int)) := Lx9M.out.upd ux10 Zx9k.out (by omega)
              have Lx10g : Hid (BigAt x10 wr.heap.size (G : Int)) := Lx9g.out.upd ux10 Zx9k.out (by omega)
              have Lx10u : Hid (BigAt x10 (wr.heap.size + 1) s) := Lx9u.out.upd ux10 Zx9k.out (by omega)
              have Lx10d : Hid (BigAt x10 x3.heap.size (x - (r : Int))) := Lx9d.out.upd ux10 Zx9k.out (by omega)
              have Lx10k : Hid (BigAt x10 x8.heap.size q) := ix10
              have Kx10 : Hid (Below w.heap.size w x10) := Kx9.out.trans (ux10.below (by omega) (by omega))
              have Sx10 : Hid (Sv w.heap.size 0 0 x10) := Sx9.out.upd ux10 (by omega)
              clear Lx9R Lx9M Lx9g Lx9u Lx9d Zx9k Kx9 Sx9 ix10 ux10
              clear Lx10d
              go_wp2_with fail
              refine (Mul_any x8.heap.size x8.heap.size (wr.heap.size + 1) q s 2 2 _ Lx10k.out.slot Lx10k.out Lx10u.out (lt_pwB (by omega)) (lt_pwA hsb) (by omega) (by omega)).mono ?_
              rintro e x11 ⟨rfl, ix11, ux11⟩
              have zx11 := ux11.size
              have Lx11R : Hid (BigAt x11 br (r : Int)) := Lx10R.out.upd ux11 Lx10k.out.slot (by omega)
              have Lx11M : Hid (BigAt x11 bm (m : Int)) := Lx10M.out.upd ux11 Lx10k.out.slot (by omega)
              have Lx11g : Hid (BigAt x11 wr.heap.size (G : Int)) := Lx10g.out.upd ux11 Lx10k.out.slot (by omega)
              have Lx11u : Hid (BigAt x11 (wr.heap.size + 1) s) := Lx10u.out.upd ux11 Lx10k.out.slot (by omega)
              have Lx11k : Hid (BigAt x11 x8.heap.size (q * s)) := ix11
              have Kx11 : Hid (Below w.heap.size w x11) := Kx10.out.trans (ux11.below (by omega) (by omega))
              have Sx11 : Hid (Sv w.heap.size 0 0 x11) := Sx10.out.upd ux11 (by omega)
              clear Lx10R Lx10M Lx10g Lx10u Lx10k Kx10 Sx10 ix11 ux11
              clear Lx11u
              go_wp2_with fail
              obtain ⟨x12, hwx12⟩ : ∃ x, x = (x11.alloc (.cells #[.bool false, .slice none 0 0] 49)) := ⟨_, rfl⟩
              rw [← hwx12]
              have zx12 : x12.heap.size = x11.heap.size + 1 := by rw [hwx12]; simp
              have kx12 : Below x11.heap.size x11 x12 := by rw [hwx12]; exact Below.alloc_self' _ _
              have Lx12R : Hid (BigAt x12 br (r : Int)) := Lx11R.out.below kx12 (Nat.le_refl _)
              have Lx12M : Hid (BigAt x12 bm (m : Int)) := Lx11M.out.below kx12 (Nat.le_refl _)
              have Lx12g : Hid (BigAt x12 wr.heap.size (G : Int)) := Lx11g.out.below kx12 (Nat.le_refl _)
              have Lx12k : Hid (BigAt x12 x8.heap.size (q * s)) := Lx11k.out.below kx12 (Nat.le_refl _)
              have Zx12r2 : Hid (Slot x12 x11.heap.size) := by rw [hwx12]; exact slot_new x11 _ _
              have Kx12 : Hid (Below w.heap.size w x12) := Kx11.out.trans (kx12.mono (by omega))
              have Sx12 : Hid (Sv w.heap.size 0 0 x12) := Sx11.out.below kx12
              clear Lx11R Lx11M Lx11g Lx11k Kx11 Sx11 hwx12 kx12
              refine (Mul_any x8.heap.size x8.heap.size bm (q * s) (m : Int) 4 2 _ Lx12k.out.slot Lx12k.out Lx12M.out (mulA_lt (lt_pwB (by omega)) (lt_pwA hsb)) (lt_pwA (by omega)) (by omega) (by omega)).mono ?_
              rintro e x13 ⟨rfl, ix13, ux13⟩
              have zx13 := ux13.size
              have Lx13R : Hid (BigAt x13 br (r : Int)) := Lx12R.out.upd ux13 Lx12k.out.slot (by omega)
              have Lx13M : Hid (BigAt x13 bm (m : Int)) := Lx12M.out.upd ux13 Lx12k.out.slot (by omega)
              have Lx13g : Hid (BigAt x13 wr.heap.size (G : Int)) := Lx12g.out.upd ux13 Lx12k.out.slot (by omega)
              have Zx13r2 : Hid (Slot x13 x11.heap.size) := Zx12r2.out.upd ux13 (by omega)
              have Lx13k : Hid (BigAt x13 x8.heap.size (q * s * (m : Int))) := ix13
              have Kx13 : Hid (Below w.heap.size w x13) := Kx12.out.trans (ux13.below (by omega) (by omega))
              have Sx13 : Hid (Sv w.heap.size 0 0 x13) := Sx12.out.upd ux13 (by omega)
              clear Lx12R Lx12M Lx12g Lx12k Zx12r2 Kx12 Sx12 ix13 ux13
              go_wp2_with fail
              have HB6 : Hid ((q * s * (m : Int)).natAbs < pw 6) := mulA_lt (mulA_lt (lt_pwB (by omega)) (lt_pwA hsb)) (lt_pwA (by omega))
              refine (Add_any x11.heap.size br x8.heap.size (r : Int) (q * s * (m : Int)) 2 6 _ Zx13r2.out Lx13R.out Lx13k.out (lt_pwA (by omega)) HB6.out (by omega) (by omega)).mono ?_
              rintro e x14 ⟨rfl, ix14, ux14⟩
              have zx14 := ux14.size
              have Lx14R : Hid (BigAt x14 br (r : Int)) := Lx13R.out.upd ux14 Zx13r2.out (by omega)
              have Lx14M : Hid (BigAt x14 bm (m : Int)) := Lx13M.out.upd ux14 Zx13r2.out (by omega)
              have Lx14g : Hid (BigAt x14 wr.heap.size (G : Int)) := Lx13g.out.upd ux14 Zx13r2.out (by omega)
              have Lx14k : Hid (BigAt x14 x8.heap.size (q * s * (m : Int))) := Lx13k.out.upd ux14 Zx13r2.out (by omega)
              have Lx14r2 : Hid (BigAt x14 x11.heap.size ((r : Int) + q * s * (m : Int))) := ix14
              have Kx14 : Hid (Below w.heap.size w x14) := Kx13.out.trans (ux14.below (by omega) (by omega))
              have Sx14 : Hid (Sv w.heap.size 0 0 x14) := Sx13.out.upd ux14 (by omega)
              clear Lx13R Lx13M Lx13g Lx13k Zx13r2 Kx13 Sx13 ix14 ux14
              clear Lx14k Lx14R
              go_wp2_with fail
              obtain ⟨x15, hwx15⟩ : ∃ x, x = ((x14.alloc (.cells #[.bool false, .slice none 0 0] 49)).alloc (.cells #[.bool false, .slice none 0 0] 49)) := ⟨_, rfl⟩
              rw [← hwx15]
              have zx15 : x15.heap.size = x14.heap.size + 2 := by rw [hwx15]; simp
              have kx15 : Below x14.heap.size x14 x15 := by rw [hwx15]; exact (two_new x14).2.2.1
              have Lx15M : Hid (BigAt x15 bm (m : Int)) := Lx14M.out.below kx15 (Nat.le_refl _)
              have Lx15g : Hid (BigAt x15 wr.heap.size (G : Int)) := Lx14g.out.below kx15 (Nat.le_refl _)
              have Lx15r2 : Hid (BigAt x15 x11.heap.size ((r : Int) + q * s * (m : Int))) := Lx14r2.out.below kx15 (Nat.le_refl _)
              have Zx15m2 : Hid (Slot x15 x14.heap.size) := by rw [hwx15]; exact (two_new x14).1
              have Zx15h : Hid (Slot x15 (x14.heap.size + 1)) := by rw [hwx15]; exact (two_new x14).2.1
              have Kx15 : Hid (Below w.heap.size w x15) := Kx14.out.trans (kx15.mono (by omega))
              have Sx15 : Hid (Sv w.heap.size 0 0 x15) := Sx14.out.below kx15
              clear Lx14M Lx14g Lx14r2 Kx14 Sx14 hwx15 kx15
              refine (B_any (n : Int) _ (by omega) (by omega)).mono ?_
              rintro e x16 ⟨bx16, rfl, px16, ix16, kx16⟩
              have zx16 := kx16.size
              have lx16 := ix16.lt
              have Lx16M : Hid (BigAt x16 bm (m : Int)) := Lx15M.out.below kx16 (Nat.le_refl _)
              have Lx16g : Hid (BigAt x16 wr.heap.size (G : Int)) := Lx15g.out.below kx16 (Nat.le_refl _)
              have Lx16r2 : Hid (BigAt x16 x11.heap.size ((r : Int) + q * s * (m : Int))) := Lx15r2.out.below kx16 (Nat.le_refl _)
              have Zx16m2 : Hid (Slot x16 x14.heap.size) := Zx15m2.out.below kx16 (Nat.le_refl _)
              have Zx16h : Hid (Slot x16 (x14.heap.size + 1)) := Zx15h.out.below kx16 (Nat.le_refl _)
              have Lx16n : Hid (BigAt x16 bx16 (n : Int)) := ix16
              have Kx16 : Hid (Below w.heap.size w x16) := Kx15.out.trans (kx16.mono (by omega))
              have Sx16 : Hid (Sv w.heap.size 0 0 x16) := Sx15.out.below kx16
              clear Lx15M Lx15g Lx15r2 Zx15m2 Zx15h Kx15 Sx15 ix16 kx16
              go_wp2_with fail
              refine (Quo_any (x14.heap.size + 1) bx16 wr.heap.size (n : Int) (G : Int) 2 2 _ Zx16h.out Lx16n.out Lx16g.out (by omega) (lt_pwA (by omega)) (lt_pwA (by omega)) (by omega) (by omega)).mono ?_
              rw [HN1.out]
              rintro e x17 ⟨rfl, ix17, ux17⟩
              have zx17 := ux17.size
              have Lx17M : Hid (BigAt x17 bm (m : Int)) := Lx16M.out.upd ux17 Zx16h.out (by omega)
              have Lx17g : Hid (BigAt x17 wr.heap.size (G : Int)) := Lx16g.out.upd ux17 Zx16h.out (by omega)
              have Lx17r2 : Hid (BigAt x17 x11.heap.size ((r : Int) + q * s * (m : Int))) := Lx16r2.out.upd ux17 Zx16h.out (by omega)
              have Lx17n : Hid (BigAt x17 bx16 (n : Int)) := Lx16n.out.upd ux17 Zx16h.out (by omega)
              have Zx17m2 : Hid (Slot x17 x14.heap.size) := Zx16m2.out.upd ux17 (by omega)
              have Lx17h : Hid (BigAt x17 (x14.heap.size + 1) (N : Int)) := ix17
              have Kx17 : Hid (Below w.heap.size w x17) := Kx16.out.trans (ux17.below (by omega) (by omega))
              have Sx17 : Hid (Sv w.heap.size 0 0 x17) := Sx16.out.upd ux17 (by omega)
              clear Lx16M Lx16g Lx16r2 Lx16n Zx16m2 Zx16h Kx16 Sx16 ix17 ux17
              clear Lx17n Lx17g
              go_wp2_with fail
              refine (Mul_any x14.heap.size bm (x14.heap.size + 1) (m : Int) (N : Int) 2 2 _ Zx17m2.out Lx17M.out Lx17h.out (lt_pwA (by omega)) (lt_pwA (by omega)) (by omega) (by omega)).mono ?_
              rw [← Int.natCast_mul]
              rintro e x18 ⟨rfl, ix18, ux18⟩
              have zx18 := ux18.size
              have Lx18M : Hid (BigAt x18 bm (m : Int)) := Lx17M.out.upd ux18 Zx17m2.out (by omega)
              have Lx18r2 : Hid (BigAt x18 x11.heap.size ((r : Int) + q * s * (m : Int))) := Lx17r2.out.upd ux18 Zx17m2.out (by omega)
              have Lx18h : Hid (BigAt x18 (x14.heap.size + 1) (N : Int)) := Lx17h.out.upd ux18 Zx17m2.out (by omega)
              have Lx18m2 : Hid (BigAt x18 x14.heap.size ((m * N : Nat) : Int)) := ix18
              have Kx18 : Hid (Below w.heap.size w x18) := Kx17.out.trans (ux18.below (by omega) (by omega))
              have Sx18 : Hid (Sv w.heap.size 0 0 x18) := Sx17.out.upd ux18 (by omega)
              clear Lx17M Lx17r2 Lx17h Zx17m2 Kx17 Sx17 ix18 ux18
              clear Lx18h Lx18M
              obtain ⟨R', hR1, hR2, hR3, hR4⟩ := join_ref (a := x) hrm (by omega) HLIN.out (by rw [← HGG.out]; exact HQ.out)
              rw [← HGG.out, ← HNN.out] at hR1 hR2
              rw [← Int.natCast_mul] at hR1
              have HR1 : Hid (((r : Int) + q * s * (m : Int)) % ((m * N : Nat) : Int) = (R' : Int)) := hR1
              have HR2 : Hid (R' < m * N) := hR2
              have HR3 : Hid ((m : Int) ∣ (R' : Int) - (r : Int)) := hR3
              have HR4 : Hid ((n : Int) ∣ (R' : Int) - x) := hR4
              clear hR1 hR2 hR3 hR4
              have hmn : m * N ≤ 1000000000000000000000000000000000000 := Nat.mul_le_mul (show m ≤ 1000000000000000000 by omega) (show N ≤ 1000000000000000000 by omega)
              have hmn0 : 0 < m * N := Nat.mul_pos (by omega) (by omega)
              obtain ⟨M', gM'⟩ : ∃ M', M' = m * N := ⟨_, rfl⟩
              rw [← gM'] at HR1 HR2 hmn hmn0 Lx18m2
              have HM' : Hid (M' = m * N) := gM'
              clear gM'
              have LM : Hid ((M' : Int).natAbs < pw 4) := by show _ < pw 4; rw [pw_four]; omega
              have LR : Hid (((r : Int) + q * s * (m : Int)).natAbs < pw 7) := by
                have h1 := HB6.out
                have h2 : (r : Int).natAbs < pw 2 := lt_pwA (by omega)
                have h3 := pw_le (show 2 ≤ 6 by omega)
                have h4 : pw 7 = 4294967296 * pw 6 := rfl
                show _ < _
                omega
              go_wp2_with fail
              refine (Mod_any x11.heap.size x11.heap.size x14.heap.size ((r : Int) + q * s * (m : Int)) (M' : Int) 7 4 _ Lx18r2.out.slot Lx18r2.out Lx18m2.out (by omega) LR.out LM.out (by omega) (by omega)).mono ?_
              rw [HR1.out]
              rintro e x19 ⟨rfl, ix19, ux19⟩
              have zx19 := ux19.size
              have Lx19m2 : Hid (BigAt x19 x14.heap.size (M' : Int)) := Lx18m2.out.upd ux19 Lx18r2.out.slot (by omega)
              have Lx19r2 : Hid (BigAt x19 x11.heap.size (R' : Int)) := ix19
              have Kx19 : Hid (Below w.heap.size w x19) := Kx18.out.trans (ux19.below (by omega) (by omega))
              have Sx19 : Hid (Sv w.heap.size 0 0 x19) := Sx18.out.upd ux19 (by omega)
              clear Lx18r2 Lx18m2 Kx18 Sx18 ix19 ux19
              go_wp2_with fail
              refine (B_any 1000000000000000000 _ (by omega) (by omega)).mono ?_
              rintro e x20 ⟨bx20, rfl, px20, ix20, kx20⟩
              have zx20 := kx20.size
              have lx20 := ix20.lt
              have Lx20m2 : Hid (BigAt x20 x14.heap.size (M' : Int)) := Lx19m2.out.below kx20 (Nat.le_refl _)
              have Lx20r2 : Hid (BigAt x20 x11.heap.size (R' : Int)) := Lx19r2.out.below kx20 (Nat.le_refl _)
              have Lx20c : Hid (BigAt x20 bx20 1000000000000000000) := ix20
              have Kx20 : Hid (Below w.heap.size w x20) := Kx19.out.trans (kx20.mono (by omega))
              have Sx20 : Hid (Sv w.heap.size 0 0 x20) := Sx19.out.below kx20
              clear Lx19m2 Lx19r2 Kx19 Sx19 ix20 kx20
              go_wp2_with fail
              refine (Cmp_any x14.heap.size bx20 (M' : Int) 1000000000000000000 4 2 _ Lx20m2.out Lx20c.out LM.out (lt_pwA (by omega)) (by omega) (by omega)).mono ?_
              by_cases hbig : 1000000000000000000 < M'
              · rw [show cmpZ (M' : Int) 1000000000000000000 = 1 by unfold cmpZ; rw [if_neg (by omega), if_pos (by omega)]]
                rintro e wC ⟨rfl, qC, hC⟩
                have KC : Hid (Below w.heap.size w wC) := by rw [hC]; exact below_drewN' Kx20.out
                have SC : Hid (Sv w.heap.size 0 0 wC) := by rw [hC]; exact Sx20.out.drewN
                have zC : x20.heap.size ≤ wC.heap.size := by rw [hC]; exact Nat.le_refl _
                have HO : Hid (JOut rs ms 0 0 9 k) := ⟨Or.inr (Or.inr (Or.inl ⟨b1, HE.out, k, r, m, 0, 0, hlt, HJ.out, rfl, rfl, rfl, by omega, ⟨Or.inr ⟨HX.out ▸ hnx, n, HY.out ▸ rfl, by omega, by omega, Or.inr (Or.inl ⟨rfl, rfl, rfl, HX.out ▸ HDV.out, by rw [← HGG.out, ← HNN.out, ← HM'.out]; exact hbig⟩)⟩⟩⟩))⟩
                clear hC
                go_wp2_with fail
                refine (F_any 9 (k : Int) _).mono ?_
                rintro e wF ⟨rfl, kF⟩
                obtain ⟨s0, s1, s2, s3, s4⟩ := SC.out.below kF
                have KF : Hid (Below w.heap.size w wF) := KC.out.trans (kF.mono (by omega))
                clear kF
                go_wp2
                refine bodyPost_ret (v := .tuple #[.int .i64 0, .int .i64 0, .agg #[.int .i64 9, .int .i64 k]]) (by simp [results, Try.results25, go_sem, s0, s1, s4]) rfl ⟨0, 0, 9, k, rfl, HO.out, ?_⟩
                exact (KF.out.setCell (Nat.le_refl _) _).setCell (Nat.le_refl _) _
              · have hcz : ¬ (0 < cmpZ (M' : Int) 1000000000000000000) := by unfold cmpZ; split <;> (try split) <;> omega
                have hcb := cmpZ_bounds (M' : Int) 1000000000000000000
                obtain ⟨cz, gcz⟩ : ∃ cz, cz = cmpZ (M' : Int) 1000000000000000000 := ⟨_, rfl⟩
                rw [← gcz] at hcz hcb ⊢
                clear gcz
                rintro e wC ⟨rfl, qC, hC⟩
                have KC : Hid (Below w.heap.size w wC) := by rw [hC]; exact below_drewN' Kx20.out
                have SC : Hid (Sv w.heap.size 0 0 wC) := by rw [hC]; exact Sx20.out.drewN
                have RC : Hid (BigAt wC x11.heap.size (R' : Int)) := by rw [hC]; exact Lx20r2.out.drewN
                have MC : Hid (BigAt wC x14.heap.size (M' : Int)) := by rw [hC]; exact Lx20m2.out.drewN
                have zC : x20.heap.size ≤ wC.heap.size := by rw [hC]; exact Nat.le_refl _
                have HJ2 : Hid (MathC.JSt rs ms (k + 1) R' M') := by
                  have h := MathC.jst_next HJ.out n HY.out.symm (by omega) (by omega) (by rw [← HX.out]; omega) (by rw [← HX.out]; omega) (R := R') (by rw [← HGG.out, ← HNN.out, ← HM'.out]; omega) (by rw [← HGG.out, ← HNN.out, ← HM'.out]; exact HR2.out) HR3.out (by rw [← HX.out]; exact HR4.out)
                  rw [← HGG.out, ← HNN.out, ← HM'.out] at h
                  exact h
                clear hC
                go_wp2
                go_roundw
                case rel => exact ⟨k + 1, R', M', x11.heap.size, x14.heap.size, by omega, by go_num, rfl, rfl, by omega, by omega, HJ2.out, RC.out, MC.out, SC.out, KC.out⟩
                case measure => simp [intOf]; omega
            · have hsg : ((((x - (r : Int)) % (G : Int)).sign) != 0) = true := by
                have h1 : (x - (r : Int)) % (G : Int) ≠ 0 := fun h => hdv (Int.dvd_of_emod_eq_zero h)
                simp
                exact h1
              obtain ⟨sg, gsg⟩ : ∃ sg, sg = ((x - (r : Int)) % (G : Int)).sign := ⟨_, rfl⟩
              rw [← gsg] at hsg ⊢
              clear gsg
              rintro e wS ⟨rfl, hwS⟩
              rw [hwS]
              clear hwS wS
              have HO : Hid (JOut rs ms 0 0 5 k) := ⟨Or.inr (Or.inr (Or.inl ⟨b1, HE.out, k, r, m, 0, 0, hlt, HJ.out, rfl, rfl, rfl, by omega, ⟨Or.inr ⟨HX.out ▸ hnx, n, HY.out ▸ rfl, by omega, by omega, Or.inl ⟨rfl, rfl, rfl, by rw [← HX.out, ← HGG.out]; exact hdv⟩⟩⟩⟩))⟩
              clear hdv
              go_wp2_with fail
              refine (F_any 5 (k : Int) _).mono ?_
              rintro e wF ⟨rfl, kF⟩
              obtain ⟨s0, s1, s2, s3, s4⟩ := Sx8.out.below kF
              have KF : Hid (Below w.heap.size w wF) := Kx8.out.trans (kF.mono (by omega))
              clear kF
              go_wp2
              refine bodyPost_ret (v := .tuple #[.int .i64 0, .int .i64 0, .agg #[.int .i64 5, .int .i64 k]]) (by simp [results, Try.results25, go_sem, s0, s1, s4]) rfl ⟨0, 0, 5, k, rfl, HO.out, ?_⟩
              exact (KF.out.setCell (Nat.le_refl _) _).setCell (Nat.le_refl _) _
        · obtain rfl : k = rs.length := by omega
          have HO : Hid (JOut rs ms r m 0 0) := ⟨Or.inr (Or.inr (Or.inr ⟨b1, HE.out, r, m, HJ.out, rfl, rfl, rfl, rfl⟩))⟩
          go_wp2_with fail
          refine (Int64_any br (r : Int) _ HR.out (by omega)).mono ?_
          rintro e w3 ⟨rfl, n3, hw3⟩
          have M3 : Hid (BigAt w3 bm (m : Int)) := by rw [hw3]; exact HM.out.drewN
          have S3 : Hid (Sv w.heap.size 0 0 w3) := by rw [hw3]; exact HS.out.drewN
          have K3 : Hid (Below w.heap.size w w3) := by rw [hw3]; exact below_drewN' HK.out
          clear hw3
          go_wp2_with fail
          refine (Int64_any bm (m : Int) _ M3.out (by omega)).mono ?_
          rintro e w4 ⟨rfl, n4, hw4⟩
          have S4 : Hid (Sv w.heap.size 0 0 w4) := by rw [hw4]; exact S3.out.drewN
          have K4 : Hid (Below w.heap.size w w4) := by rw [hw4]; exact below_drewN' K3.out
          clear hw4
          obtain ⟨s0, s1, s2, s3, s4⟩ := S4.out
          go_wp2
          refine bodyPost_ret (v := .tuple #[.int .i64 r, .int .i64 m, .agg #[.int .i64 0, .int .i64 0]]) (by simp [results, Try.results25, go_sem, s0, s1, s4]) rfl ⟨r, m, 0, 0, rfl, HO.out, ?_⟩
          exact (K4.out.setCell (Nat.le_refl _) _).setCell (Nat.le_refl _) _
    · have t1 : ((rs.length : Int) != (ms.length : Int)) = true := by rw [bne_iff_ne]; omega
      have HO : Hid (JOut rs ms 0 0 8 0) := ⟨Or.inr (Or.inl ⟨b1, b2, he, rfl, rfl, rfl, rfl⟩)⟩
      clear he
      go_enter Try.func25, Try.ntmps25
      go_wp2_with fail
      refine (F_any 8 0 _).mono ?_
      rintro e w1 ⟨rfl, k1⟩
      obtain ⟨s0, s1, s2, s3, s4⟩ := (Sv.new 0 0 w).below k1
      have K1 : Hid (Below w.heap.size w w1) := (Below.alloc_self w _).trans (k1.mono (by simp))
      clear k1
      go_wp2
      refine bodyPost_ret (v := .tuple #[.int .i64 0, .int .i64 0, .agg #[.int .i64 8, .int .i64 0]]) (by simp [results, Try.results25, go_sem, s0, s1, s4]) rfl ⟨0, 0, 8, 0, rfl, HO.out, ?_⟩
      exact (K1.out.setCell (Nat.le_refl _) _).setCell (Nat.le_refl _) _

end Go.Proofs.Ytknmfohipdjlpaa
