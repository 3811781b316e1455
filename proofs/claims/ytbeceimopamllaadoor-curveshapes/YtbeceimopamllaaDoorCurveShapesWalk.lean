/- The law CurveShapes, walked. -/
import Derived.Test.YtbeceimopamllaaDoorJnM
import Derived.Test.YtbeceimopamllaaDoorCuW
import Derived.Test.YtbeceimopamllaaDoorCuU
set_option linter.unusedSimpArgs false
set_option linter.unusedVariables false
set_option maxRecDepth 100000
namespace Go.Proofs.YtbeceimopamllaaDoor
open Go.RowKit EC

theorem cell_same {W : World} {B i g o : Nat} {v : Value} {l : List Value} {t : TypeId} (hB : Cl B l t W) (hp : W.cell? ⟨B, i, none⟩ = some v) : (W.setCell ⟨B, i, none⟩ v).cell? ⟨g, o, none⟩ = W.cell? ⟨g, o, none⟩ := by
  by_cases e : g = B
  · subst e
    rw [(hB.same hp).cell o, hB.cell o]
  · exact World.cell?_of_block (Below.heap_setCell W ⟨B, i, none⟩ v g (by first | exact e | exact fun h => e h.symm))
theorem PS.same2 {W : World} {B : Nat} {u v : Value} {t : TypeId} {s : Value} {l : List Pn} (hB : Cl B [u, v] t W) (h : PS W s l) : PS ((W.setCell ⟨B, 0, none⟩ u).setCell ⟨B, 1, none⟩ v) s l := by
  obtain ⟨aa, g, cap, e, h1, h2⟩ := h
  have c0 : W.cell? ⟨B, 0, none⟩ = some u := hB.cell 0
  have hB1 := hB.same c0
  have c1 : (W.setCell ⟨B, 0, none⟩ u).cell? ⟨B, 1, none⟩ = some v := hB1.cell 1
  refine ⟨aa, g, cap, e, fun h => ⟨(h1 h).1, by simpa using (h1 h).2⟩, fun i hi => ?_⟩
  rw [cell_same hB1 c1, cell_same hB1 c1, cell_same hB1 c1, cell_same hB c0, cell_same hB c0, cell_same hB c0]
  exact h2 i hi
theorem od_same {p a : Int} {q : Pn} {k m : Nat} (h1 : Od p a q k) (h2 : Od p a q m) : k = m := by
  rcases Nat.lt_trichotomy k m with h | h | h
  · exact absurd h1.2.1 (h2.2.2 k h1.1 h)
  · exact h
  · exact absurd h2.2.1 (h1.2.2 m h2.1 h)

set_option maxHeartbeats 4000000 in
theorem lshapes_bad (p a b c d : Int) (w : World) (h : Cf p a b c d) (hc : c ≠ 0) (hT : Tb w) :
    Calls Tryd.prog 6 #[.int .i64 p, .int .i64 a, .int .i64 b] w fun e w' => e = .returned (.bool true) ∧ Below w.heap.size w w' := by
  have HBg : Hid (∀ w, Tb w → Calls Tryd.prog 10 #[] w fun e w' => e = .returned (.bool true) ∧ Below w.heap.size w w') := fun w h => curveBegun_any w h
  have HSh : Hid (∀ w, Tb w → Calls Tryd.prog 23 #[.int .i64 p, .int .i64 a, .int .i64 b] w fun e w' => e = .returned (.tuple #[.int .i64 0, .int .i64 0, .agg #[.int .i64 c, .int .i64 d]]) ∧ Below w.heap.size w w') := fun w hT => Shape_bad p a b c d w h hc hT
  have HCf : Hid (∀ w, Calls Tryd.prog 9 #[.int .i64 p, .int .i64 a, .int .i64 b] w fun e w' => e = .returned (.agg #[.int .i64 c, .int .i64 d]) ∧ Below w.heap.size w w') := fun w => refCurveFault_any p a b c d w h
  have HT : Hid (Tb w) := hT
  have hcb : (c != 0) = true := by simp [bne]; exact hc
  clear h hc hT
  go_enter Tryd.func6, Tryd.ntmps6
  go_wp2_with fail
  refine (HSh.out _ HT.out).mono ?_
  rintro e w1 ⟨rfl, k1⟩
  have HM : Hid (Mm [(w1.heap.size, [.int .i64 c, .int .i64 d], 23)] w (w1.alloc (.cells #[.int .i64 c, .int .i64 d] 23))) := ((Mm.nil w).below k1).new [.int .i64 c, .int .i64 d] 23 rfl
  clear k1
  go_wp2_with fail
  refine (HCf.out _).mono ?_
  rintro e w2 ⟨rfl, k2⟩
  have HM2 : Hid (Mm [(w2.heap.size, [.int .i64 c, .int .i64 d], 23), (w1.heap.size, [.int .i64 c, .int .i64 d], 23)] w (w2.alloc (.cells #[.int .i64 c, .int .i64 d] 23))) := (HM.out.below k2).new [.int .i64 c, .int .i64 d] 23 rfl
  clear k2 HM
  go_wp2_with fail
  refine (HBg.out _ (HT.out.below HM2.out.k)).mono ?_
  rintro e W3 ⟨rfl, k3⟩
  have HM : Hid (Mm [(w2.heap.size, [.int .i64 c, .int .i64 d], 23), (w1.heap.size, [.int .i64 c, .int .i64 d], 23)] w W3) := HM2.out.below k3
  clear k3 HM2
  have e0 : W3.cell? ⟨w2.heap.size, 0, none⟩ = some (.int .i64 c) := (HM.out.at 0 rfl).cell 0
  have e1 : W3.cell? ⟨w2.heap.size, 1, none⟩ = some (.int .i64 d) := (HM.out.at 0 rfl).cell 1
  have e2 : W3.cell? ⟨w1.heap.size, 0, none⟩ = some (.int .i64 c) := (HM.out.at 1 rfl).cell 0
  have e3 : W3.cell? ⟨w1.heap.size, 1, none⟩ = some (.int .i64 d) := (HM.out.at 1 rfl).cell 1
  go_wp2
  go_ret
  exact ⟨rfl, HM.out.k⟩

set_option maxHeartbeats 8000000 in
theorem lshapes_ok (P A B : Nat) (w : World) (hv : Cv P (A : Int) (B : Int)) (hT : Tb w) :
    Calls Tryd.prog 6 #[.int .i64 P, .int .i64 (A : Int), .int .i64 (B : Int)] w fun e w' => e = .returned (.bool true) ∧ Below w.heap.size w w' := by
  haveI := hv.nz
  obtain ⟨N, K, m, n, g0, hex, hn, hm, hm1, hn1, hmn, hdn, hdp, hg0, hgo, hle⟩ := CP.shape hv
  have HBg : Hid (∀ w, Tb w → Calls Tryd.prog 10 #[] w fun e w' => e = .returned (.bool true) ∧ Below w.heap.size w w') := fun w h => curveBegun_any w h
  have HSh : Hid (∀ w, Tb w → Calls Tryd.prog 23 #[.int .i64 P, .int .i64 (A : Int), .int .i64 (B : Int)] w fun e w' => e = .returned (.tuple #[.int .i64 m, .int .i64 n, .agg #[.int .i64 0, .int .i64 0]]) ∧ Below w.heap.size w w') := fun w hT => Shape_ok P A B N K m n w hv hex hn hm hT
  have HPt : Hid (∀ w, Tb w → Calls Tryd.prog 8 #[.int .i64 P, .int .i64 (A : Int), .int .i64 (B : Int)] w fun e w' => ∃ (aa : Option Addr) (cc : Nat), e = .returned (.tuple #[.slice aa (pts P A B P).length cc, .agg #[.int .i64 0, .int .i64 0]]) ∧ PS w' (.slice aa (pts P A B P).length cc) (pts P A B P) ∧ Below w.heap.size w w') := fun w hT => Points_ok P A B w hv hT
  have HCf : Hid (∀ w, Calls Tryd.prog 9 #[.int .i64 P, .int .i64 (A : Int), .int .i64 (B : Int)] w fun e w' => e = .returned (.agg #[.int .i64 0, .int .i64 0]) ∧ Below w.heap.size w w') := fun w => refCurveFault_any P A B 0 0 w (cf_of hv)
  have hlenP := pts_len P A B P
  have hPP : P * P ≤ 2000 * 2000 := Nat.mul_le_mul hv.p2 hv.p2
  have hp := hv.p2
  have hp5 := hv.p5
  have ha := hv.a1
  have hb := hv.b1
  have HT : Hid (Tb w) := hT
  obtain ⟨jg, hjg, hjge⟩ := List.getElem_of_mem hg0
  have HOr : Hid (∀ i, i < (pts P (A : Int) (B : Int) P).length → ∃ k, k ≤ 4000001 ∧ k ≤ n ∧ (i = jg → k = n) ∧ ∀ w, Calls Tryd.prog 21 #[.int .i64 P, .int .i64 (A : Int), Pv ((pts P (A : Int) (B : Int) P).getD i farP)] w fun e w' => e = .returned (.int .i64 k) ∧ Below w.heap.size w w') := fun i hi => by
    have hmem : (pts P (A : Int) (B : Int) P).getD i farP ∈ pts P (A : Int) (B : Int) P := by rw [AB.getD_at _ farP hi]; exact List.getElem_mem hi
    have hon := (CP.pts_all _).1 hmem
    obtain ⟨k, hk, hk2⟩ := od_ex hv hon
    refine ⟨k, by omega, hle _ hmem k hk, fun e => ?_, fun w => CurveOrder_any P A B _ k w hv hon hk (by omega)⟩
    subst e
    rw [AB.getD_at _ farP hi, hjge] at hk
    exact od_same hk hgo
  obtain ⟨L, hL⟩ : ∃ L, pts P (A : Int) (B : Int) P = L := ⟨_, rfl⟩
  rw [hL] at HPt hlenP hmn HOr hjg
  obtain ⟨LN, hLN⟩ : ∃ n, L.length = n := ⟨_, rfl⟩
  rw [hLN] at HPt hlenP hmn HOr hjg
  have HLen : Hid (L.length = LN) := hLN
  have hLN2 : LN ≤ 5000000 := by omega
  have hm2 : m ≤ LN := by rw [← hmn]; exact Nat.le_mul_of_pos_right m (by omega)
  have hn2 : n ≤ LN := by rw [← hmn]; exact Nat.le_mul_of_pos_left n (by omega)
  have hmnI : (m : Int) * (n : Int) = (LN : Int) := by rw [← Int.natCast_mul, hmn]
  have hrem : (n : Int).tmod (m : Int) = 0 := by
    rw [Int.tmod_eq_emod_of_nonneg (Int.natCast_nonneg _), ← Int.natCast_emod, Nat.mod_eq_zero_of_dvd hdn]; rfl
  have hrem2 : ((P : Int) - 1).tmod (m : Int) = 0 := by
    rw [show (P : Int) - 1 = ((P - 1 : Nat) : Int) by omega, Int.tmod_eq_emod_of_nonneg (Int.natCast_nonneg _), ← Int.natCast_emod, Nat.mod_eq_zero_of_dvd hdp]; rfl
  have hm3 : (m : Int) ≠ 0 := by omega
  have hm4 : decide ((m : Int) < 1) = false := decide_eq_false (by omega)
  have hn4 : decide ((n : Int) < 1) = false := decide_eq_false (by omega)
  have hm5 : decide (m < 1) = false := decide_eq_false (by omega)
  have hn5 : decide (n < 1) = false := decide_eq_false (by omega)
  have HN : Hid (1 ≤ n ∧ jg < LN) := ⟨hn1, hjg⟩
  clear hv hT hL hLN hPP hlenP hex hn hm hdn hdp hg0 hgo hle hjge hmn
  go_enter Tryd.func6, Tryd.ntmps6
  go_wp2_with fail
  refine (HSh.out _ HT.out).mono ?_
  rintro e w1 ⟨rfl, k1⟩
  have HM : Hid (Mm [(w1.heap.size, [.int .i64 0, .int .i64 0], 23)] w (w1.alloc (.cells #[.int .i64 0, .int .i64 0] 23))) := ((Mm.nil w).below k1).new [.int .i64 0, .int .i64 0] 23 rfl
  clear k1
  go_wp2_with fail
  refine (HCf.out _).mono ?_
  rintro e w2 ⟨rfl, k2⟩
  have HM2 : Hid (Mm [(w2.heap.size, [.int .i64 0, .int .i64 0], 23), (w1.heap.size, [.int .i64 0, .int .i64 0], 23)] w (w2.alloc (.cells #[.int .i64 0, .int .i64 0] 23))) := (HM.out.below k2).new [.int .i64 0, .int .i64 0] 23 rfl
  clear k2 HM
  go_wp2_with fail
  refine (HBg.out _ (HT.out.below HM2.out.k)).mono ?_
  rintro e W3 ⟨rfl, k3⟩
  have HM : Hid (Mm [(w2.heap.size, [.int .i64 0, .int .i64 0], 23), (w1.heap.size, [.int .i64 0, .int .i64 0], 23)] w W3) := HM2.out.below k3
  clear k3 HM2
  have e0 : W3.cell? ⟨w2.heap.size, 0, none⟩ = some (.int .i64 0) := (HM.out.at 0 rfl).cell 0
  have e1 : W3.cell? ⟨w2.heap.size, 1, none⟩ = some (.int .i64 0) := (HM.out.at 0 rfl).cell 1
  have e2 : W3.cell? ⟨w1.heap.size, 0, none⟩ = some (.int .i64 0) := (HM.out.at 1 rfl).cell 0
  have e3 : W3.cell? ⟨w1.heap.size, 1, none⟩ = some (.int .i64 0) := (HM.out.at 1 rfl).cell 1
  go_wp2_with fail
  refine (HPt.out _ (HT.out.below HM.out.k)).mono ?_
  rintro e w4 ⟨aa, cp, rfl, hps, k4⟩
  have HM4 : Hid (Mm [(w2.heap.size, [.int .i64 0, .int .i64 0], 23), (w1.heap.size, [.int .i64 0, .int .i64 0], 23)] w w4) := HM.out.below k4
  clear k4 HM e0 e1 e2 e3
  have e0 : w4.cell? ⟨w2.heap.size, 0, none⟩ = some (.int .i64 0) := (HM4.out.at 0 rfl).cell 0
  have e1 : w4.cell? ⟨w2.heap.size, 1, none⟩ = some (.int .i64 0) := (HM4.out.at 0 rfl).cell 1
  have e2 : w4.cell? ⟨w1.heap.size, 0, none⟩ = some (.int .i64 0) := (HM4.out.at 1 rfl).cell 0
  have e3 : w4.cell? ⟨w1.heap.size, 1, none⟩ = some (.int .i64 0) := (HM4.out.at 1 rfl).cell 1
  have f0 : w4.frozen? ⟨w1.heap.size, 0, none⟩ = false := (HM4.out.at 1 rfl).frozen 0
  have f1 : w4.frozen? ⟨w1.heap.size, 1, none⟩ = false := (HM4.out.at 1 rfl).frozen 1
  have HP4 : Hid (PS ((w4.setCell ⟨w1.heap.size, 0, none⟩ (.int .i64 0)).setCell ⟨w1.heap.size, 1, none⟩ (.int .i64 0)) (.slice aa LN cp) L) := PS.same2 (HM4.out.at 1 rfl) hps
  have HM5 : Hid (Mm [(w2.heap.size, [.int .i64 0, .int .i64 0], 23), (w1.heap.size, [.int .i64 0, .int .i64 0], 23)] w ((w4.setCell ⟨w1.heap.size, 0, none⟩ (.int .i64 0)).setCell ⟨w1.heap.size, 1, none⟩ (.int .i64 0))) := HM4.out.same2 1 rfl
  clear hps
  by_cases hp100 : 100 < P
  · have t1 : decide (100 < (P : Int)) = true := decide_eq_true (by omega)
    have t2 : decide (100 < P) = true := decide_eq_true hp100
    go_wp2
    go_ret
    exact ⟨rfl, HM5.out.k⟩
  · have t1 : decide (100 < (P : Int)) = false := decide_eq_false (by omega)
    have t2 : decide (100 < P) = false := decide_eq_false hp100
    obtain ⟨hn0, hjL⟩ := HN.out
    obtain ⟨aa', g, cap', e', h1', h2'⟩ := HP4.out
    rw [HLen.out] at e' h1' h2'
    injection e' with e1' _ _
    rw [(h1' (by omega)).1] at e1'
    subst e1'
    clear h1' h2'
    go_wp2
    clear e0 e1 e2 e3 f0 f1 HM4
    go_loopw [12, 13] (fun mv iv wx => ∃ i mo : Nat, i ≤ LN ∧ mo ≤ n ∧ mv = .int .i64 mo ∧ iv = .int .i64 i ∧ Hid ((jg < i → n ≤ mo) ∧ PS wx (.slice (some ⟨g, 0, none⟩) LN cp) L ∧ Below w.heap.size w wx)) (fun _ iv _ => LN - (intOf iv).toNat)
    case atStart => exact ⟨0, 0, by omega, by omega, rfl, rfl, fun h => by omega, HP4.out, HM5.out.k⟩
    case round =>
      obtain ⟨i, mo, hiL, hmo, rfl, rfl, HI⟩ := hrel
      by_cases hlt : i < LN
      · obtain ⟨k, hk4, hkn, hkj, hcall⟩ := HOr.out i hlt
        have HCall : Hid (∀ w, Calls Tryd.prog 21 #[.int .i64 P, .int .i64 (A : Int), Pv (L.getD i farP)] w fun e w' => e = .returned (.int .i64 k) ∧ Below w.heap.size w w') := hcall
        clear hcall
        obtain ⟨a2, g2, c2, e2', h1', h2'⟩ := HI.out.2.1
        rw [HLen.out] at e2' h1' h2'
        injection e2' with e1' _ _
        rw [(h1' (by omega)).1] at e1'
        injection e1' with e1'
        injection e1' with e1' _ _
        subst e1'
        obtain ⟨z0, z1, z2⟩ := h2' i hlt
        clear h1' h2'
        obtain ⟨q, hq⟩ : ∃ q, L.getD i farP = q := ⟨_, rfl⟩
        rw [hq] at z0 z1 z2 HCall
        obtain ⟨x, y, f⟩ := q
        unfold Pv at HCall
        simp only at z0 z1 z2 HCall
        clear hq
        go_wp2_with fail
        refine (HCall.out _).mono ?_
        rintro e w5 ⟨rfl, k5⟩
        have HI5 : Hid (PS w5 (.slice (some ⟨g, 0, none⟩) LN cp) L ∧ Below w.heap.size w w5) := ⟨HI.out.2.1.below k5, HI.out.2.2.trans (k5.mono HI.out.2.2.size)⟩
        have hI := HI.out.1
        have hnk : jg < i + 1 → n ≤ max mo k := fun h => by
          rcases Nat.lt_or_ge jg i with c | c
          · have := hI c; omega
          · have := hkj (by omega); omega
        clear k5 HI z0 z1 z2
        by_cases hgt : mo < k
        · have t3 : decide ((mo : Int) < (k : Int)) = true := decide_eq_true (by omega)
          have t4 : decide (mo < k) = true := decide_eq_true hgt
          go_wp2
          go_roundw
          case rel => exact ⟨i + 1, k, by omega, hkn, rfl, by go_num, fun h => by have := hnk (by omega); omega, HI5.out⟩
          case measure => simp [intOf]; omega
        · have t3 : decide ((mo : Int) < (k : Int)) = false := decide_eq_false (by omega)
          have t4 : decide (mo < k) = false := decide_eq_false hgt
          go_wp2
          go_roundw
          case rel => exact ⟨i + 1, mo, by omega, hmo, rfl, by go_num, fun h => by have := hnk (by omega); omega, HI5.out⟩
          case measure => simp [intOf]; omega
      · obtain rfl : mo = n := by have := HI.out.1 (by omega); omega
        go_wp2
        go_ret
        exact ⟨rfl, HI.out.2.2⟩

theorem curve_shapes (p a b : Int) (w : World) (hT : Tb w) :
    Calls Tryd.prog 6 #[.int .i64 p, .int .i64 a, .int .i64 b] w fun e w' => e = .returned (.bool true) ∧ Below w.heap.size w w' := by
  obtain ⟨c, d, h⟩ := cf_ex p a b
  rcases h.good with ⟨_, _, P, rfl, hv⟩ | ⟨hc, _⟩
  · obtain ⟨A, rfl⟩ : ∃ A : Nat, a = A := ⟨a.toNat, by have := hv.a0; omega⟩
    obtain ⟨B, rfl⟩ : ∃ B : Nat, b = B := ⟨b.toNat, by have := hv.b0; omega⟩
    exact lshapes_ok P A B w hv hT
  · exact lshapes_bad p a b c d w h hc hT

end Go.Proofs.YtbeceimopamllaaDoor
