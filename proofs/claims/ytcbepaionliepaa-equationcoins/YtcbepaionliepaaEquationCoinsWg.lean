/- The law EquationCoins: the walk (ok). Written by mkco2.py. -/
import Derived.Test.YtcbepaionliepaaEquationCoinsWa
import Derived.Test.YtcbepaionliepaaCoX
set_option linter.unusedSimpArgs false
set_option linter.unusedVariables false
set_option maxRecDepth 100000
namespace Go.Proofs.Ytcbepaionliepaa
open Go.RowKit

set_option maxRecDepth 100000 in
set_option maxHeartbeats 8000000 in
theorem co_ok (ad : Addr) (ca : Nat) (xs : List Int) (w : World) (ra : xs.length * 8 ≤ 140737488351232) (hca : ∀ j u, (xs.map fun x : Int => Value.int .i64 x)[j]? = some u → w.cell? (ad.add j) = some u) (hIA : IS w (.slice (some ad) xs.length ca) xs) (h0 : 1 ≤ xs.length) (hl : xs.length ≤ 20) (l : List Nat) (hll : l.length = xs.length) (hM : ∀ j, j < l.length → 1 ≤ l.getD j 0 ∧ l.getD j 0 ≤ 1000) (hx : ∀ j, xs.getD j 0 = ((l.getD j 0 : Nat) : Int)) (hg1 : CO.gl l = 1) (hq2 : ¬ (l.length = 2 ∧ 1 < lw l l.length)) :
    Calls Try.prog 5 #[.slice (some ad) xs.length ca] w fun e w' => e = .returned (.bool true) ∧ Below w.heap.size w w' := by
  obtain ⟨i0, hi, hz0, hz1, hz2⟩ := info_parts Try.infoIntC
  have HI : Hid (Try.prog.info? 3 = some i0 ∧ i0.zero = some (.int .i64 0) ∧ i0.size = 1 ∧ i0.bytes = 8) := ⟨hi, hz0, hz1, hz2⟩
  have HCA : Hid (∀ j u, (xs.map fun x : Int => Value.int .i64 x)[j]? = some u → w.cell? (ad.add j) = some u) := hca
  obtain ⟨aS, gs, os, cS, eS, pS, cellS, ltS⟩ := hIA.shape
  simp only [Value.slice.injEq] at eS
  obtain ⟨rfl, -, rfl⟩ := eS
  have HS0 : Hid ((∀ j, j < xs.length → w.cell? ⟨gs, os + j, none⟩ = some (.int .i64 (xs.getD j 0))) ∧ (0 < xs.length → gs < w.heap.size) ∧ (0 < xs.length → (some ad : Option Addr) = some ⟨gs, os, none⟩)) := ⟨cellS, ltS, pS⟩
  have HRA : Hid (xs.length * 8 ≤ 140737488351232) := ra
  clear hca hIA cellS ltS pS hi hz0 hz1 hz2
  have HM : Hid (∀ j, j < l.length → 1 ≤ l.getD j 0 ∧ l.getD j 0 ≤ 1000) := hM
  have HXx : Hid (∀ j, xs.getD j 0 = ((l.getD j 0 : Nat) : Int)) := hx
  have HLL : Hid (l.length = xs.length) := hll
  clear hM hx hll
  go_enter Try.func5, Try.ntmps5
  go_wp2_with (at_builtin; refine wpList_append_own _ rfl _ _ 26 rfl w.heap.size 3 i0 (.int .i64 0) 1 8 Try.underlying26 HI.out.1 HI.out.2.1 HI.out.2.2.1 HI.out.2.2.2 rfl (by decide) _ 0 [] rfl (World.ownsRow_nil _ _ _ _) ad xs.length ca (xs.map fun x : Int => Value.int .i64 x) rfl (by simp) HCA.out (co_one xs) (by unfold maxLen; omega) (by omega) (Nat.le_refl _) ?_)
  intro v1 w1 hown hgrow _
  try simp only [Nat.zero_add, List.nil_append] at hown
  have kw1 : Below w.heap.size w w1 := (Below.refl _ _).grown hgrow (Nat.le_refl _) (by simp [Value.ownBlock])
  obtain ⟨aO, go, oo, cO, rfl, pO, cellO, ltO⟩ := (co_own hown).shape
  have HO : Hid (Below w.heap.size w w1 ∧ (∀ j, j < xs.length → w1.cell? ⟨go, oo + j, none⟩ = some (.int .i64 (xs.getD j 0))) ∧ (0 < xs.length → go < w1.heap.size) ∧ (0 < xs.length → aO = some ⟨go, oo, none⟩)) := ⟨kw1, cellO, ltO, pO⟩
  have HSs : Hid ((∀ j, j < xs.length → w1.cell? ⟨gs, os + j, none⟩ = some (.int .i64 (xs.getD j 0))) ∧ (0 < xs.length → gs < w1.heap.size)) := ⟨fun j hj => (kw1.cell (p := ⟨gs, os + j, none⟩) (HS0.out.2.1 (by omega))).trans (HS0.out.1 j hj), fun h => Nat.lt_of_lt_of_le (HS0.out.2.1 h) kw1.size⟩
  obtain ⟨N, hN⟩ : ∃ N, N = xs.length := ⟨_, rfl⟩
  have HNn : Hid (N = xs.length) := hN
  have hn0 : 0 < xs.length := by omega
  have ead := HS0.out.2.2 hn0
  have eao := HO.out.2.2.2 hn0
  simp only [Option.some.injEq] at ead
  subst ead
  subst eao
  rw [← hN] at h0 hl hn0
  rw [← hN]
  clear hN hown hgrow kw1 cellO ltO pO HCA HI ra
  have t1 : decide ((N : Int) < 1) = false := decide_eq_false (by omega)
  have t2 : decide (20 < (N : Int)) = false := decide_eq_false (by omega)
  have HRo : Hid (∀ (g o : Nat) (w : World), g < w.heap.size → (∀ j, j < xs.length → w.cell? ⟨g, o + j, none⟩ = some (.int .i64 (xs.getD j 0))) → Ro g o l.length (fun j => l.getD j 0) w) := fun g o w hg hw => ⟨fun j hj => by rw [hw j (by rw [← HLL.out]; exact hj), HXx.out j], hg⟩
  have HNl : Hid (N = l.length) := by show _ = _; rw [HLL.out]; exact HNn.out
  have HGo : Hid (go < w1.heap.size) := HO.out.2.2.1 (by rw [← HNn.out]; exact hn0)
  have HCo : Hid (∀ w, Ro go oo l.length (fun j => l.getD j 0) w → Calls Try.prog 23 #[.slice (some ⟨go, oo, none⟩) N cO] w fun e w' => ∃ (m : Nat) (L : Nat → Nat), m = mn (fun j => l.getD j 0) (l.length - 1) ∧ CO.G m l l.length L ∧ e = .returned (CoV ((mx L (m - 1) : Nat) - (m : Int)) (CO.su (fun r => L r / m) m : Nat) 0 0) ∧ Below w.heap.size w w') := fun w hw => by
    have := Coins_ok l go oo cO w (by rw [← HNl.out]; exact h0) (by rw [← HNl.out]; exact hl) HM.out hg1 hw
    rw [← HNl.out] at this ⊢
    exact this
  go_wp2_with fail
  refine (HCo.out _ (HRo.out go oo _ HGo.out HO.out.2.1)).mono ?_
  rintro e w2 ⟨m, L, em, hGG, rfl, k2⟩
  have HF : Hid (m = lw l l.length ∧ CO.G m l l.length L) := by
    refine ⟨?_, hGG⟩
    have := lw_mn (fun j hj => (HM.out j hj).2) (l.length - 1) (by have := HNl.out; omega)
    rw [show l.length - 1 + 1 = l.length by have := HNl.out; omega] at this
    rw [this, em]
  obtain ⟨A, hA⟩ : ∃ A : Int, A = (mx L (m - 1) : Nat) - (m : Int) := ⟨_, rfl⟩
  obtain ⟨M, hMm⟩ : ∃ A : Nat, A = CO.su (fun r => L r / m) m := ⟨_, rfl⟩
  have HAM : Hid (A = (mx L (m - 1) : Nat) - (m : Int) ∧ M = CO.su (fun r => L r / m) m) := ⟨hA, hMm⟩
  rw [← hA, ← hMm]
  clear em hGG hA hMm
  go_wp2_with fail
  obtain ⟨W3, hW3⟩ : ∃ W, W = (w2.alloc (.cells #[.int .i64 0, .int .i64 0] 23)).alloc (.cells #[.int .i64 0, .int .i64 0] 23) := ⟨_, rfl⟩
  have HB3 : Hid (Cb w W3 w2.heap.size (w2.heap.size + 1) gs os go oo xs 0 0 0 0) := by show Cb _ _ _ _ _ _ _ _ _ _ _ _ _; rw [hW3]; exact cb_new 0 0 HO.out.1 k2 HSs.out.1 HSs.out.2 HO.out.2.1 HO.out.2.2.1
  rw [← hW3]
  clear hW3 k2
  go_loopg [8, 9, 10, 11] N (fun gk gv lv hv iv wx => ∃ i : Nat, gv = .int .i64 (gt l i : Nat) ∧ lv = .int .i64 (lw l i : Nat) ∧ hv = .int .i64 (hg l i : Nat) ∧ iv = .int .i64 i ∧ Hid (gk = N - i ∧ i ≤ N ∧ Cb w wx w2.heap.size (w2.heap.size + 1) gs os go oo xs 0 0 0 0))
  case atStart => exact ⟨0, rfl, rfl, rfl, rfl, rfl, by omega, HB3.out⟩
  case round =>
    clear HB3
    obtain ⟨i, rfl, rfl, rfl, rfl, HR⟩ := hrel
    obtain ⟨h1, h2, h3⟩ := HR.out
    have HK : Hid (gk = N - i) := h1
    have HB : Hid (Cb w wr w2.heap.size (w2.heap.size + 1) gs os go oo xs 0 0 0 0) := h3
    obtain ⟨v0, v1, v2, v3, v4⟩ := h3.v
    have hu : ∀ j, j < l.length → l.getD j 0 ≤ 1000 := fun j hj => (HM.out j hj).2
    have HU : Hid (∀ j, j < l.length → l.getD j 0 ≤ 1000) := hu
    obtain ⟨G, hG⟩ : ∃ n, n = gt l i := ⟨_, rfl⟩
    obtain ⟨lo, hlo⟩ : ∃ n, n = lw l i := ⟨_, rfl⟩
    obtain ⟨hi, hhi⟩ : ∃ n, n = hg l i := ⟨_, rfl⟩
    have b1 : G ≤ 1000 := by rw [hG]; exact gt_bd hu (by have := HNl.out; omega)
    have b2 : lo ≤ 1001 := by rw [hlo]; exact lw_le l i
    have b3 : hi ≤ 1000 := by rw [hhi]; exact hg_le (fun j hj => hu j (by have := HNl.out; omega))
    have HE : Hid (G = gt l i ∧ lo = lw l i ∧ hi = hg l i) := ⟨hG, hlo, hhi⟩
    rw [← hG, ← hlo, ← hhi]
    clear HR h1 hu hG hlo hhi
    by_cases hiN : i < N
    · have ti : decide ((i : Int) < (N : Int)) = true := decide_eq_true (by omega)
      have hil : i < l.length := by have := HNl.out; omega
      have bX := HM.out i hil
      obtain ⟨X, hX⟩ : ∃ n, n = l.getD i 0 := ⟨_, rfl⟩
      have c0 : wr.cell? ⟨gs, os + i, none⟩ = some (.int .i64 (X : Int)) := by
        have := h3.s i (by have := HNn.out; omega)
        rw [HXx.out i, ← hX] at this
        exact this
      rw [← hX] at bX
      have d1 : decide ((X : Int) < 1) = false := decide_eq_false (by omega)
      have d2 : decide (1000 < (X : Int)) = false := decide_eq_false (by omega)
      obtain ⟨Gn, hGn⟩ : ∃ g, g = Nat.gcd G X := ⟨_, rfl⟩
      have bG : Gn ≤ 1000 := by rw [hGn]; exact Nat.le_trans (Nat.gcd_le_right _ (by omega)) bX.2
      have HGc : Hid (∀ w, Calls Try.prog 8 #[.int .i64 (G : Int), .int .i64 (X : Int)] w fun e w' => e = .returned (.int .i64 (Gn : Int)) ∧ w' = w) := fun w => by
        have := refGcd_nat G X w (by omega) (by omega) (G : Int) (X : Int) rfl rfl
        rw [Int.gcd_natCast_natCast, ← hGn] at this
        exact this
      have HW : Hid (gt l (i + 1) = Gn ∧ lw l (i + 1) = min lo X ∧ hg l (i + 1) = max hi X) := ⟨by rw [gt_next l i hil, ← HE.out.1, ← hX, hGn], by rw [lw, ← HE.out.2.1, ← hX], by rw [hg, ← HE.out.2.2, ← hX]⟩
      clear h3 hX hGn
      go_wp2_with fail
      refine (HGc.out _).mono ?_
      rintro e w' ⟨rfl, hw'⟩
      rw [hw']
      clear hw' w'
      have hc4 : (¬ X < lo ∧ ¬ hi < X) ∨ (¬ X < lo ∧ hi < X) ∨ (X < lo ∧ ¬ hi < X) ∨ (X < lo ∧ hi < X) := by omega
      rcases hc4 with ⟨hA, hB⟩ | ⟨hA, hB⟩ | ⟨hA, hB⟩ | ⟨hA, hB⟩
      · have q1 : decide ((X : Int) < (lo : Int)) = false := decide_eq_false (by omega)
        have q2 : decide ((hi : Int) < (X : Int)) = false := decide_eq_false (by omega)
        go_wp2
        go_roundg (N - (i + 1))
        case rel => exact ⟨i + 1, by rw [HW.out.1], by rw [show lw l (i + 1) = lo by rw [HW.out.2.1]; omega], by rw [show hg l (i + 1) = hi by rw [HW.out.2.2]; omega], by go_num, rfl, by omega, HB.out⟩
        case measure => have := HK.out; omega
      · have q1 : decide ((X : Int) < (lo : Int)) = false := decide_eq_false (by omega)
        have q2 : decide ((hi : Int) < (X : Int)) = true := decide_eq_true (by omega)
        go_wp2
        go_roundg (N - (i + 1))
        case rel => exact ⟨i + 1, by rw [HW.out.1], by rw [show lw l (i + 1) = lo by rw [HW.out.2.1]; omega], by rw [show hg l (i + 1) = X by rw [HW.out.2.2]; omega], by go_num, rfl, by omega, HB.out⟩
        case measure => have := HK.out; omega
      · have q1 : decide ((X : Int) < (lo : Int)) = true := decide_eq_true (by omega)
        have q2 : decide ((hi : Int) < (X : Int)) = false := decide_eq_false (by omega)
        go_wp2
        go_roundg (N - (i + 1))
        case rel => exact ⟨i + 1, by rw [HW.out.1], by rw [show lw l (i + 1) = X by rw [HW.out.2.1]; omega], by rw [show hg l (i + 1) = hi by rw [HW.out.2.2]; omega], by go_num, rfl, by omega, HB.out⟩
        case measure => have := HK.out; omega
      · have q1 : decide ((X : Int) < (lo : Int)) = true := decide_eq_true (by omega)
        have q2 : decide ((hi : Int) < (X : Int)) = true := decide_eq_true (by omega)
        go_wp2
        go_roundg (N - (i + 1))
        case rel => exact ⟨i + 1, by rw [HW.out.1], by rw [show lw l (i + 1) = X by rw [HW.out.2.1]; omega], by rw [show hg l (i + 1) = X by rw [HW.out.2.2]; omega], by go_num, rfl, by omega, HB.out⟩
        case measure => have := HK.out; omega
    · have ti : decide ((i : Int) < (N : Int)) = false := decide_eq_false (by omega)
      obtain rfl : N = i := by omega
      clear h3
      have hGl : G = CO.gl l := by rw [HE.out.1, HNl.out]; exact gt_all l
      have hG1 : G = 1 := by rw [hGl, hg1]
      subst hG1
      have HBX : Hid (Cb w wr w2.heap.size (w2.heap.size + 1) gs os go oo xs 0 0 0 0) := HB.out
      have HFi := co_fin (by have := HNl.out; omega) HM.out hg1 HF.out.1 HF.out.2
      have elo : lo = m := by rw [HE.out.2.1, HNl.out, HF.out.1]
      have ehi : hi = hg l l.length := by rw [HE.out.2.2, HNl.out]
      rw [← ehi, ← HAM.out.1, ← HAM.out.2] at HFi
      obtain ⟨q1, q2, q3, q4, q5, q6, q7, q8⟩ := HFi
      subst elo
      obtain ⟨P, hP⟩ : ∃ P : Nat, P = lo * hi := ⟨_, rfl⟩
      have bP : P ≤ 1000000 := by rw [hP]; exact Nat.mul_le_mul (show lo ≤ 1000 by omega) (show hi ≤ 1000 by omega)
      have eP : (lo : Int) * (hi : Int) = (P : Int) := by rw [hP]; push_cast; rfl
      rw [← hP] at q6 q7 q8
      have HGp : Hid (∀ w, Ro gs os l.length (fun j => l.getD j 0) w → Calls Try.prog 25 #[.slice (some ⟨gs, os, none⟩) N ca, .int .i64 (P : Int)] w fun e w' => e = .returned (.tuple #[.int .i64 A, .int .i64 (M : Int)]) ∧ Below w.heap.size w w') := fun w hw => by
        have := Gaps_any l (CO.gap lo L) P gs os ca w bP (by have := HNl.out; omega) q8 HM.out hw
        rw [← q6, ← q7, ← HNl.out] at this
        exact this
      have HN2 : Hid (¬ (N = 2 ∧ 1 < lo)) := by
        intro hh
        exact hq2 ⟨by rw [← HNl.out]; exact hh.1, by rw [← HF.out.1]; exact hh.2⟩
      clear hGl q3 q5 q6 q7 q8 hP ehi
      go_wp2_with fail
      refine (equationBegun_any _).mono ?_
      rintro e w9 ⟨rfl, k9⟩
      have HB9 : Hid (Cb w w9 w2.heap.size (w2.heap.size + 1) gs os go oo xs 0 0 0 0) := HBX.out.below k9
      obtain ⟨f0, f1, f2, f3, f4⟩ := HB9.out.f
      obtain ⟨g0, g1, g2, g3, g4⟩ := HB9.out.v
      have HIt : Hid (Calls Try.prog 24 #[.slice (some ⟨go, oo, none⟩) N cO, .slice (some ⟨gs, os, none⟩) N ca] w9 fun e w' => e = .returned (.bool true) ∧ ∃ q, w' = w9.drewN q) := by
        have := refInts_any _ _ xs xs w9 (HB9.out.io cO (fun _ => rfl)) (HB9.out.is ca (fun _ => rfl)) (by have := HRA.out; omega) (by have := HRA.out; omega)
        rw [decide_eq_true rfl, ← HNn.out] at this
        exact this
      clear k9
      go_wp2_with fail
      refine HIt.out.mono ?_
      rintro e wi ⟨rfl, nq, hwi⟩
      have HBi : Hid (Cb w wi w2.heap.size (w2.heap.size + 1) gs os go oo xs 0 0 0 0) := by show Cb _ _ _ _ _ _ _ _ _ _ _ _ _; rw [hwi]; exact HB9.out.below (below_drewN' (Below.refl _ _))
      clear hwi f0 f1 f2 f3 f4 g0 g1 g2 g3 g4 HIt
      obtain ⟨g0, g1, g2, g3, g4⟩ := HBi.out.v
      have hRo := HRo.out gs os wi (by have := HBi.out.sl (by rw [← HNn.out]; exact hn0); exact Nat.lt_trans this HBi.out.v.lt) HBi.out.s
      have HRO : Hid (Ro gs os l.length (fun j => l.getD j 0) wi) := hRo
      have w1' : IntKind.i64.wrap (P : Int) = (P : Int) := by rw [IntKind.wrap_i64]; omega
      clear hRo
      by_cases h22 : N = 2
      · subst h22
        have tl : decide (1 < (lo : Int)) = false := decide_eq_false (by have := HN2.out; omega)
        go_wp2_with fail
        refine (HGp.out _ HRO.out).mono ?_
        rintro e wz ⟨rfl, kz⟩
        have HKz : Hid (Below w.heap.size w wz) := HBi.out.k.trans (kz.mono HBi.out.k.size)
        clear kz
        go_wp2
        go_ret
        exact ⟨by simp, HKz.out⟩
      · have t22 : ((N : Int) == 2) = false := beq_eq_false_iff_ne.2 (by omega)
        go_wp2_with fail
        refine (HGp.out _ HRO.out).mono ?_
        rintro e wz ⟨rfl, kz⟩
        have HKz : Hid (Below w.heap.size w wz) := HBi.out.k.trans (kz.mono HBi.out.k.size)
        clear kz
        go_wp2
        go_ret
        exact ⟨by simp, HKz.out⟩

end Go.Proofs.Ytcbepaionliepaa
