/- The law EquationCoins: the walk (nil). Written by mkco2.py. -/
import Derived.Test.YtcbepaionliepaaEquationCoinsWa
import Derived.Test.YtcbepaionliepaaCoX
set_option linter.unusedSimpArgs false
set_option linter.unusedVariables false
set_option maxRecDepth 100000
namespace Go.Proofs.Ytcbepaionliepaa
open Go.RowKit

set_option maxRecDepth 100000 in
set_option maxHeartbeats 8000000 in
theorem co_nil (w : World) : Calls Try.prog 5 #[.slice none 0 0] w fun e w' => e = .returned (.bool true) ∧ Below w.heap.size w w' := by
  obtain ⟨i0, hi, hz0, hz1, hz2⟩ := info_parts Try.infoIntC
  obtain ⟨xs, hxs⟩ : ∃ xs, xs = ([] : List Int) := ⟨_, rfl⟩
  obtain ⟨gs, os, go, oo, hgo⟩ : ∃ gs os go oo : Nat, gs = 0 ∧ os = 0 ∧ go = 0 ∧ oo = 0 := ⟨0, 0, 0, 0, rfl, rfl, rfl, rfl⟩
  have HX : Hid (xs = []) := hxs
  clear hxs hgo
  go_enter Try.func5, Try.ntmps5
  go_wp2_with (at_builtin; refine wpList_append_own_none rfl _ _ 26 rfl w.heap.size 3 i0 1 Try.underlying26 hi _ 0 [] rfl (World.ownsRow_nil _ _ _ _) rfl ?_)
  go_wp2_with fail
  refine (Coins_many none 0 0 _ (by omega)).mono ?_
  rintro e w2 ⟨rfl, k2⟩
  have HO : Hid (Below w.heap.size w w) := Below.refl _ _
  go_wp2_with fail
  obtain ⟨W3, hW3⟩ : ∃ W, W = (w2.alloc (.cells #[.int .i64 2, .int .i64 0] 23)).alloc (.cells #[.int .i64 0, .int .i64 0] 23) := ⟨_, rfl⟩
  have HB3 : Hid (Cb w W3 w2.heap.size (w2.heap.size + 1) gs os go oo xs 2 0 0 0) := by show Cb _ _ _ _ _ _ _ _ _ _ _ _ _; rw [hW3]; exact cb_new 2 0 HO.out k2 (fun j hj => by rw [HX.out] at hj; simp at hj) (fun h => by rw [HX.out] at h; simp at h) (fun j hj => by rw [HX.out] at hj; simp at hj) (fun h => by rw [HX.out] at h; simp at h)
  rw [← hW3]
  clear hW3 k2
  refine (co_F 2 0 _).mono ?_
  rintro e w5 ⟨rfl, k5⟩
  have HB5 := HB3.out.below k5
  have HBX : Hid (Cb w ((w5.setCell ⟨w2.heap.size + 1, 0, none⟩ (.int .i64 2)).setCell ⟨w2.heap.size + 1, 1, none⟩ (.int .i64 0)) w2.heap.size (w2.heap.size + 1) gs os go oo xs 2 0 2 0) := HB5.set 2 0
  obtain ⟨u0, u1, u2, u3, u4⟩ := HB5.v
  clear HB5 k5
  go_wp2
  go_loopg [8, 9, 10, 11] 0 (fun gk gv lv hv iv wx => gv = .int .i64 0 ∧ lv = .int .i64 1001 ∧ hv = .int .i64 0 ∧ iv = .int .i64 0 ∧ Hid (Cb w wx w2.heap.size (w2.heap.size + 1) gs os go oo xs 2 0 2 0))
  case atStart => exact ⟨rfl, rfl, rfl, rfl, HBX.out⟩
  case round =>
    clear HBX u0 u1 u2 u3 u4
    obtain ⟨rfl, rfl, rfl, rfl, HBX⟩ := hrel
    obtain ⟨y0, y1, y2, y3, y4⟩ := HBX.out.v
    go_wp2_with fail
    refine (equationBegun_any _).mono ?_
    rintro e w9 ⟨rfl, k9⟩
    have HB9 : Hid (Cb w w9 w2.heap.size (w2.heap.size + 1) gs os go oo xs 2 0 2 0) := HBX.out.below k9
    obtain ⟨f0, f1, f2, f3, f4⟩ := HB9.out.f
    obtain ⟨g0, g1, g2, g3, g4⟩ := HB9.out.v
    have HIt : Hid (Calls Try.prog 24 #[.slice none 0 0, .slice none 0 0] w9 fun e w' => e = .returned (.bool true) ∧ ∃ q, w' = w9.drewN q) := by
      have := refInts_any (.slice none 0 0) (.slice none 0 0) [] [] w9 ⟨none, 0, 0, 0, rfl, fun h => by simp at h, fun i hi => by simp at hi, fun h => by simp at h⟩ ⟨none, 0, 0, 0, rfl, fun h => by simp at h, fun i hi => by simp at hi, fun h => by simp at h⟩ (by simp) (by simp)
      rw [decide_eq_true rfl] at this
      exact this
    clear k9
    go_wp2_with fail
    refine HIt.out.mono ?_
    rintro e wi ⟨rfl, nq, hwi⟩
    have HBi : Hid (Cb w wi w2.heap.size (w2.heap.size + 1) gs os go oo xs 2 0 2 0) := by show Cb _ _ _ _ _ _ _ _ _ _ _ _ _; rw [hwi]; exact HB9.out.below (below_drewN' (Below.refl _ _))
    clear hwi f0 f1 f2 f3 f4 g0 g1 g2 g3 g4 HIt
    obtain ⟨g0, g1, g2, g3, g4⟩ := HBi.out.v
    go_wp2
    go_ret
    exact ⟨rfl, HBi.out.k⟩

end Go.Proofs.Ytcbepaionliepaa
