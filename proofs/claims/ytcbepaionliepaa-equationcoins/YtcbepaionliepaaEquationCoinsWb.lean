/- The law EquationCoins: the walk (many). Written by mkco2.py. -/
import Derived.Test.YtcbepaionliepaaEquationCoinsWa
import Derived.Test.YtcbepaionliepaaCoX
set_option linter.unusedSimpArgs false
set_option linter.unusedVariables false
set_option maxRecDepth 100000
namespace Go.Proofs.Ytcbepaionliepaa
open Go.RowKit

set_option maxRecDepth 100000 in
set_option maxHeartbeats 8000000 in
theorem co_many (ad : Addr) (ca : Nat) (xs : List Int) (w : World) (ra : xs.length * 8 ≤ 140737488351232) (hca : ∀ j u, (xs.map fun x : Int => Value.int .i64 x)[j]? = some u → w.cell? (ad.add j) = some u) (hIA : IS w (.slice (some ad) xs.length ca) xs) (hn : xs.length < 1 ∨ 20 < xs.length) :
    Calls Try.prog 5 #[.slice (some ad) xs.length ca] w fun e w' => e = .returned (.bool true) ∧ Below w.heap.size w w' := by
  obtain ⟨i0, hi, hz0, hz1, hz2⟩ := info_parts Try.infoIntC
  have HI : Hid (Try.prog.info? 3 = some i0 ∧ i0.zero = some (.int .i64 0) ∧ i0.size = 1 ∧ i0.bytes = 8) := ⟨hi, hz0, hz1, hz2⟩
  have HCA : Hid (∀ j u, (xs.map fun x : Int => Value.int .i64 x)[j]? = some u → w.cell? (ad.add j) = some u) := hca
  obtain ⟨aS, gs, os, cS, eS, pS, cellS, ltS⟩ := hIA.shape
  simp only [Value.slice.injEq] at eS
  obtain ⟨rfl, -, rfl⟩ := eS
  have HS0 : Hid ((∀ j, j < xs.length → w.cell? ⟨gs, os + j, none⟩ = some (.int .i64 (xs.getD j 0))) ∧ (0 < xs.length → gs < w.heap.size) ∧ (0 < xs.length → (some ad : Option Addr) = some ⟨gs, os, none⟩)) := ⟨cellS, ltS, pS⟩
  have HRA : Hid (xs.length * 8 ≤ 140737488351232) := ra
  clear hca hIA cellS ltS pS hi hz0 hz1 hz2
  go_enter Try.func5, Try.ntmps5
  go_wp2_with (at_builtin; refine wpList_append_own _ rfl _ _ 26 rfl w.heap.size 3 i0 (.int .i64 0) 1 8 Try.underlying26 HI.out.1 HI.out.2.1 HI.out.2.2.1 HI.out.2.2.2 rfl (by decide) _ 0 [] rfl (World.ownsRow_nil _ _ _ _) ad xs.length ca (xs.map fun x : Int => Value.int .i64 x) rfl (by simp) HCA.out (co_one xs) (by unfold maxLen; omega) (by omega) (Nat.le_refl _) ?_)
  intro v1 w1 hown hgrow _
  try simp only [Nat.zero_add, List.nil_append] at hown
  have kw1 : Below w.heap.size w w1 := (Below.refl _ _).grown hgrow (Nat.le_refl _) (by simp [Value.ownBlock])
  obtain ⟨aO, go, oo, cO, rfl, pO, cellO, ltO⟩ := (co_own hown).shape
  have HO : Hid (Below w.heap.size w w1 ∧ (∀ j, j < xs.length → w1.cell? ⟨go, oo + j, none⟩ = some (.int .i64 (xs.getD j 0))) ∧ (0 < xs.length → go < w1.heap.size) ∧ (0 < xs.length → aO = some ⟨go, oo, none⟩)) := ⟨kw1, cellO, ltO, pO⟩
  have HSs : Hid ((∀ j, j < xs.length → w1.cell? ⟨gs, os + j, none⟩ = some (.int .i64 (xs.getD j 0))) ∧ (0 < xs.length → gs < w1.heap.size)) := ⟨fun j hj => (kw1.cell (p := ⟨gs, os + j, none⟩) (HS0.out.2.1 (by omega))).trans (HS0.out.1 j hj), fun h => Nat.lt_of_lt_of_le (HS0.out.2.1 h) kw1.size⟩
  obtain ⟨N, hN⟩ : ∃ N, N = xs.length := ⟨_, rfl⟩
  have HNn : Hid (N = xs.length) := hN
  rw [← hN] at hn
  rw [← hN]
  clear hN hown hgrow kw1 cellO ltO pO HCA HI ra
  go_wp2_with fail
  rcases hn with hn | hn
  · have t1 : decide ((N : Int) < 1) = true := decide_eq_true (by omega)
    refine (Coins_many _ _ _ _ (by omega)).mono ?_
    rintro e w2 ⟨rfl, k2⟩
    go_wp2_with fail
    obtain ⟨W3, hW3⟩ : ∃ W, W = (w2.alloc (.cells #[.int .i64 2, .int .i64 0] 23)).alloc (.cells #[.int .i64 0, .int .i64 0] 23) := ⟨_, rfl⟩
    have HB3 : Hid (Cb w W3 w2.heap.size (w2.heap.size + 1) gs os go oo xs 2 0 0 0) := by show Cb _ _ _ _ _ _ _ _ _ _ _ _ _; rw [hW3]; exact cb_new 2 0 HO.out.1 k2 HSs.out.1 HSs.out.2 HO.out.2.1 HO.out.2.2.1
    rw [← hW3]
    clear hW3 k2
    refine (co_F 2 0 _).mono ?_
    rintro e w5 ⟨rfl, k5⟩
    have HB5 := HB3.out.below k5
    have HBX : Hid (Cb w ((w5.setCell ⟨w2.heap.size + 1, 0, none⟩ (.int .i64 2)).setCell ⟨w2.heap.size + 1, 1, none⟩ (.int .i64 0)) w2.heap.size (w2.heap.size + 1) gs os go oo xs 2 0 2 0) := HB5.set 2 0
    obtain ⟨u0, u1, u2, u3, u4⟩ := HB5.v
    clear HB5 k5
    go_wp2
    go_loopg [8, 9, 10, 11] 0 (fun gk gv lv hv iv wx => gv = .int .i64 0 ∧ lv = .int .i64 1001 ∧ hv = .int .i64 0 ∧ iv = .int .i64 0 ∧ Hid (Cb w wx w2.heap.size (w2.heap.size + 1) gs os go oo xs 2 0 2 0))
    case atStart => exact ⟨rfl, rfl, rfl, rfl, HBX.out⟩
    case round =>
      clear HBX u0 u1 u2 u3 u4
      obtain ⟨rfl, rfl, rfl, rfl, HBX⟩ := hrel
      obtain ⟨y0, y1, y2, y3, y4⟩ := HBX.out.v
      have t3 : decide ((0 : Int) < (N : Int)) = false := decide_eq_false (by omega)
      go_wp2_with fail
      refine (equationBegun_any _).mono ?_
      rintro e w9 ⟨rfl, k9⟩
      have HB9 : Hid (Cb w w9 w2.heap.size (w2.heap.size + 1) gs os go oo xs 2 0 2 0) := HBX.out.below k9
      obtain ⟨f0, f1, f2, f3, f4⟩ := HB9.out.f
      obtain ⟨g0, g1, g2, g3, g4⟩ := HB9.out.v
      have HIt : Hid (Calls Try.prog 24 #[.slice aO N cO, .slice (some ad) N ca] w9 fun e w' => e = .returned (.bool true) ∧ ∃ q, w' = w9.drewN q) := by
        have := refInts_any _ _ xs xs w9 (HB9.out.io cO HO.out.2.2.2) (HB9.out.is ca HS0.out.2.2) (by have := HRA.out; omega) (by have := HRA.out; omega)
        rw [decide_eq_true rfl, ← HNn.out] at this
        exact this
      clear k9
      go_wp2_with fail
      refine HIt.out.mono ?_
      rintro e wi ⟨rfl, nq, hwi⟩
      have HBi : Hid (Cb w wi w2.heap.size (w2.heap.size + 1) gs os go oo xs 2 0 2 0) := by show Cb _ _ _ _ _ _ _ _ _ _ _ _ _; rw [hwi]; exact HB9.out.below (below_drewN' (Below.refl _ _))
      clear hwi f0 f1 f2 f3 f4 g0 g1 g2 g3 g4 HIt
      obtain ⟨g0, g1, g2, g3, g4⟩ := HBi.out.v
      go_wp2
      go_ret
      exact ⟨rfl, HBi.out.k⟩
  · have t1 : decide ((N : Int) < 1) = false := decide_eq_false (by omega)
    have t2 : decide (20 < (N : Int)) = true := decide_eq_true (by omega)
    refine (Coins_many _ _ _ _ (by omega)).mono ?_
    rintro e w2 ⟨rfl, k2⟩
    go_wp2_with fail
    obtain ⟨W3, hW3⟩ : ∃ W, W = (w2.alloc (.cells #[.int .i64 2, .int .i64 0] 23)).alloc (.cells #[.int .i64 0, .int .i64 0] 23) := ⟨_, rfl⟩
    have HB3 : Hid (Cb w W3 w2.heap.size (w2.heap.size + 1) gs os go oo xs 2 0 0 0) := by show Cb _ _ _ _ _ _ _ _ _ _ _ _ _; rw [hW3]; exact cb_new 2 0 HO.out.1 k2 HSs.out.1 HSs.out.2 HO.out.2.1 HO.out.2.2.1
    rw [← hW3]
    clear hW3 k2
    refine (co_F 2 0 _).mono ?_
    rintro e w5 ⟨rfl, k5⟩
    have HB5 := HB3.out.below k5
    have HBX : Hid (Cb w ((w5.setCell ⟨w2.heap.size + 1, 0, none⟩ (.int .i64 2)).setCell ⟨w2.heap.size + 1, 1, none⟩ (.int .i64 0)) w2.heap.size (w2.heap.size + 1) gs os go oo xs 2 0 2 0) := HB5.set 2 0
    obtain ⟨u0, u1, u2, u3, u4⟩ := HB5.v
    clear HB5 k5
    go_wp2
    go_loopg [8, 9, 10, 11] 0 (fun gk gv lv hv iv wx => gv = .int .i64 0 ∧ lv = .int .i64 1001 ∧ hv = .int .i64 0 ∧ iv = .int .i64 0 ∧ Hid (Cb w wx w2.heap.size (w2.heap.size + 1) gs os go oo xs 2 0 2 0))
    case atStart => exact ⟨rfl, rfl, rfl, rfl, HBX.out⟩
    case round =>
      clear HBX u0 u1 u2 u3 u4
      obtain ⟨rfl, rfl, rfl, rfl, HBX⟩ := hrel
      obtain ⟨y0, y1, y2, y3, y4⟩ := HBX.out.v
      have t3 : decide ((0 : Int) < (N : Int)) = true := decide_eq_true (by omega)
      go_wp2_with fail
      refine (equationBegun_any _).mono ?_
      rintro e w9 ⟨rfl, k9⟩
      have HB9 : Hid (Cb w w9 w2.heap.size (w2.heap.size + 1) gs os go oo xs 2 0 2 0) := HBX.out.below k9
      obtain ⟨f0, f1, f2, f3, f4⟩ := HB9.out.f
      obtain ⟨g0, g1, g2, g3, g4⟩ := HB9.out.v
      have HIt : Hid (Calls Try.prog 24 #[.slice aO N cO, .slice (some ad) N ca] w9 fun e w' => e = .returned (.bool true) ∧ ∃ q, w' = w9.drewN q) := by
        have := refInts_any _ _ xs xs w9 (HB9.out.io cO HO.out.2.2.2) (HB9.out.is ca HS0.out.2.2) (by have := HRA.out; omega) (by have := HRA.out; omega)
        rw [decide_eq_true rfl, ← HNn.out] at this
        exact this
      clear k9
      go_wp2_with fail
      refine HIt.out.mono ?_
      rintro e wi ⟨rfl, nq, hwi⟩
      have HBi : Hid (Cb w wi w2.heap.size (w2.heap.size + 1) gs os go oo xs 2 0 2 0) := by show Cb _ _ _ _ _ _ _ _ _ _ _ _ _; rw [hwi]; exact HB9.out.below (below_drewN' (Below.refl _ _))
      clear hwi f0 f1 f2 f3 f4 g0 g1 g2 g3 g4 HIt
      obtain ⟨g0, g1, g2, g3, g4⟩ := HBi.out.v
      go_wp2
      go_ret
      exact ⟨rfl, HBi.out.k⟩

end Go.Proofs.Ytcbepaionliepaa
