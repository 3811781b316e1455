/- The document's examples of package cont. -/
import Derived.Test.YtpgedkdaflgfoafGreatDoorCgK
set_option linter.unusedSimpArgs false
set_option linter.unusedVariables false
set_option maxRecDepth 100000
namespace Go.Proofs.YtpgedkdaflgfoafGreatDoor
open Go.RowKit LgM CfM

theorem dec_61x : Lib.decDigits 1766319049 = [49, 55, 54, 54, 51, 49, 57, 48, 52, 57] := by simp [dec_ge, dec_lt]
theorem dec_61y : Lib.decDigits 226153980 = [50, 50, 54, 49, 53, 51, 57, 56, 48] := by simp [dec_ge, dec_lt]
theorem cs_61 : (cs 61 7 10).2 = 1 ∧ ∀ i, i < 10 → (cs 61 7 i).2 ≠ 1 := by decide +kernel
theorem st_61 : (st 61 7 21).2 = (1766319049, 226153980) := by decide +kernel
theorem fst_uniq {n r N M : Nat} (h : Fst n r N) (k : Fst n r M) : N = M := by
  obtain ⟨h1, h2, h3, h4⟩ := h
  obtain ⟨k1, k2, k3, k4⟩ := k
  rcases Nat.lt_trichotomy N M with g | g | g
  · exact absurd h3 (k4 (N - 1) (by omega))
  · exact g
  · exact absurd k3 (h4 (M - 1) (by omega))
theorem rn_uniq {n r s : Nat} (h : Rn n r) (k : Rn n s) : r = s := by
  have a := h.lo; have b := h.hi; have c := k.lo; have d := k.hi
  rcases Nat.lt_trichotomy r s with g | g | g
  · have := Nat.mul_le_mul (show r + 1 ≤ s by omega) (show r + 1 ≤ s by omega); omega
  · exact g
  · have := Nat.mul_le_mul (show s + 1 ≤ r by omega) (show s + 1 ≤ r by omega); omega
theorem rn_61 : Rn 61 7 := ⟨by decide, by decide, by decide⟩
theorem fst_61 : Fst 61 7 11 := ⟨by decide, by decide, cs_61.1, cs_61.2⟩
theorem rn_nosq {n r s : Nat} (h : Rn n r) : s * s ≠ n := by
  intro e
  have a := h.lo; have b := h.hi
  rcases Nat.lt_or_ge r s with g | g
  · have := Nat.mul_le_mul (show r + 1 ≤ s by omega) (show r + 1 ≤ s by omega); omega
  · have := Nat.mul_le_mul g g; omega
theorem pell_61 {e : Ending} (h : PeOut 61 e) : e = .returned (.tuple #[.string ⟨#[49, 55, 54, 54, 51, 49, 57, 48, 52, 57]⟩, .string ⟨#[50, 50, 54, 49, 53, 51, 57, 56, 48]⟩, .agg #[.int .i64 0, .int .i64 0]]) := by
  rcases h with ⟨h, _⟩ | ⟨⟨r, _, h⟩, _⟩ | ⟨n, r, h1, _, h2, h3⟩
  · omega
  · exact absurd (show r * r = 61 by rw [← Int.natCast_mul] at h; omega) (rn_nosq rn_61)
  · have hn : n = 61 := by omega
    subst hn
    obtain rfl := rn_uniq h2 rn_61
    rcases h3 with ⟨h3, _⟩ | ⟨N, h3, h4⟩
    · exact absurd cs_61.1 (h3 10 (by decide))
    · obtain rfl := fst_uniq h3 fst_61
      rw [h4, show NN 11 - 1 = 21 from rfl, st_61, dec_61x, dec_61y]

set_option maxHeartbeats 2000000 in
theorem contBegun_any (w : World) (hT : Tq w) :
    Calls Tryz.prog 9 #[] w fun e w' => e = .returned (.bool true) ∧ Below w.heap.size w w' := by
  have HPe : Hid (∀ w, Tq w → Calls Tryz.prog 13 #[.int .i64 61] w fun e w' => e = .returned (.tuple #[.string ⟨#[49, 55, 54, 54, 51, 49, 57, 48, 52, 57]⟩, .string ⟨#[50, 50, 54, 49, 53, 51, 57, 56, 48]⟩, .agg #[.int .i64 0, .int .i64 0]]) ∧ Below w.heap.size w w') := fun w h => (Pell_any 61 w h).mono fun e w' h => ⟨pell_61 h.1, h.2⟩
  have HT : Hid (Tq w) := hT
  clear hT
  go_enter Tryz.func9, Tryz.ntmps9
  go_wp2_with fail
  refine (HPe.out _ HT.out).mono ?_
  rintro e w1 ⟨rfl, k1⟩
  have ka := ((Below.refl w1.heap.size w1).alloc (Nat.le_refl _) (.cells #[.int .i64 0, .int .i64 0] 25))
  have F1 := Cl.new [.int .i64 0, .int .i64 0] 25 w1
  have K2 : Below w.heap.size w (w1.alloc (.cells #[.int .i64 0, .int .i64 0] 25)) := k1.trans (ka.mono k1.size)
  have HK2 : Hid (Below w.heap.size w (w1.alloc (.cells #[.int .i64 0, .int .i64 0] 25))) := K2
  have HF1 : Hid (Cl w1.heap.size [.int .i64 0, .int .i64 0] 25 (w1.alloc (.cells #[.int .i64 0, .int .i64 0] 25))) := F1
  clear k1 ka F1 K2
  go_wp2_with fail
  generalize hW2 : (w1.alloc (.cells #[.int .i64 0, .int .i64 0] 25)) = W2 at HK2 HF1 ⊢
  refine (Unit_five W2 (HT.out.below HK2.out)).mono ?_
  rintro e w3 ⟨rfl, k3⟩
  have F3 := HF1.out.below k3
  have f0 : ∀ x : Obj, (w3.alloc x).cell? ⟨w1.heap.size, 0, none⟩ = some (.int .i64 0) := fun x => (F3.alloc x).cell 0
  have HK3 : Hid (Below w.heap.size w w3) := HK2.out.trans (k3.mono HK2.out.size)
  clear k3 F3 hW2
  go_wp2
  go_ret
  exact ⟨rfl, HK3.out.alloc HK3.out.size _⟩

end Go.Proofs.YtpgedkdaflgfoafGreatDoor
