/- The contract of the law's deepCert. -/
import Derived.Test.YtknmfohipdjlpabGreatDoorCertT
set_option linter.unusedSimpArgs false
set_option linter.unusedVariables false
set_option maxRecDepth 100000
namespace Go.Proofs.YtknmfohipdjlpabGreatDoor
open Go.RowKit

def DeepPost (c : Ct) (w : World) (e : Ending) (w' : World) : Prop := ∃ v, e = .returned (.bool v) ∧ (v = false → Slim c) ∧ Below w.heap.size w w'

set_option maxHeartbeats 400000 in
theorem deep_any {B : Nat} {w0 : World} {c : Ct} (hc : InW B w0 c) : ∀ (w : World) (deep : Int), 0 ≤ deep → deep ≤ 1101 → Below B w0 w → B ≤ w.heap.size →
    Calls Tryz.prog 6 #[.agg #[.int .i64 c.n, .int .i64 c.r, c.sl], .int .i64 deep] w (DeepPost c w) := by
  induction hc with
  | @mk c ok ps ih =>
    intro w deep h0 h1 hb hB
    have HIH := (show Hid _ from ih)
    clear ih ps
    obtain ⟨n, r, a, cap, ps⟩ := c
    have OK := (show Hid _ from ok)
    have hlen := ok.len
    simp only [Ct.ps] at hlen
    clear ok
    show Calls Tryz.prog 6 #[.agg #[.int .i64 n, .int .i64 r, .slice a ps.length cap], .int .i64 deep] w _
    by_cases h2 : 1100 < deep
    · go_enter Tryz.func6, Tryz.ntmps6
      go_wp2
      go_ret
      exact ⟨true, rfl, fun h => (by cases h), Below.alloc (Below.refl _ _) (Nat.le_refl _) _⟩
    by_cases h3 : 1100 < ps.length
    · go_enter Tryz.func6, Tryz.ntmps6
      go_wp2
      go_ret
      exact ⟨true, rfl, fun h => (by cases h), Below.alloc (Below.refl _ _) (Nat.le_refl _) _⟩
    have h4 : decide (1100 < (ps.length : Int)) = false := by simp; omega
    go_enter Tryz.func6, Tryz.ntmps6
    go_wp2
    go_loopw [5] (fun iv wx => ∃ i : Nat, i ≤ ps.length ∧ iv = .int .i64 i ∧ Hid ((∀ j (h : j < i) (h' : j < ps.length), Slim ps[j]) ∧ Below (w.heap.size + 1) (w.alloc (.cells #[.int .i64 n, .int .i64 r, .slice a ps.length cap] 24)) wx)) (fun iv _ => ps.length - (intOf iv).toNat)
    case atStart => exact ⟨0, Nat.zero_le _, rfl, fun j h => absurd h (Nat.not_lt_zero _), Below.refl _ _⟩
    case round =>
      obtain ⟨i, hi, rfl, HR⟩ := hrel
      have hz := HR.out.2.size
      simp at hz
      have q0 : wr.cell? ⟨w.heap.size, 2, none⟩ = some (.slice a ps.length cap) := (HR.out.2.cell (p := ⟨w.heap.size, 2, none⟩) (by simp)).trans (by simp)
      by_cases hlt : i < ps.length
      · obtain ⟨b, o, ea, hbB, hcell⟩ := OK.out.at_ (by simp only [Ct.ps]; omega)
        simp only [Ct.a] at ea
        subst ea
        obtain ⟨c0, c1, c2⟩ := hcell i hlt
        simp only [Ct.ps] at c0 c1 c2
        have HBW : Hid (Below B w0 wr) := hb.trans (((Below.refl _ _).alloc hB _).trans (HR.out.2.mono (by omega)))
        have c0 : wr.cell? ⟨b, o + i * 3, none⟩ = _ := (HBW.out.cell (p := ⟨b, o + i * 3, none⟩) hbB).trans c0
        have c1 : wr.cell? ⟨b, o + i * 3 + 1, none⟩ = _ := (HBW.out.cell (p := ⟨b, o + i * 3 + 1, none⟩) hbB).trans c1
        have c2 : wr.cell? ⟨b, o + i * 3 + 2, none⟩ = _ := (HBW.out.cell (p := ⟨b, o + i * 3 + 2, none⟩) hbB).trans c2
        have hcall := HIH.out i hlt wr (deep + 1) (by omega) (by omega) HBW.out (by omega)
        simp only [Ct.ps] at hcall
        have HC : Hid (Calls Tryz.prog 6 #[.agg #[.int .i64 ps[i].n, .int .i64 ps[i].r, ps[i].sl], .int .i64 (deep + 1)] wr (DeepPost ps[i] wr)) := hcall
        clear hcall
        go_wp2_with fail
        refine HC.out.mono ?_
        rintro e w1 ⟨v, rfl, hv, hb1⟩
        have HV : Hid (v = false → Slim ps[i]) := hv
        have HB1 : Hid (Below wr.heap.size wr w1) := hb1
        clear hv hb1
        cases v
        · go_wp2
          go_roundw
          case rel =>
            refine ⟨i + 1, by omega, by go_num, fun j h h' => ?_, HR.out.2.trans (HB1.out.mono (by omega))⟩
            by_cases hj : j = i
            · subst hj; exact HV.out (by simp)
            · exact HR.out.1 j (by omega) h'
          case measure => simp [intOf]; omega
        · go_wp2
          go_ret
          exact ⟨true, rfl, fun h => (by cases h), ((Below.refl _ _).alloc (Nat.le_refl _) _).trans ((HR.out.2.trans (HB1.out.mono (by omega))).mono (by omega))⟩
      · obtain rfl : i = ps.length := by omega
        go_wp2
        go_ret
        refine ⟨false, rfl, fun _ => ?_, ((Below.refl _ _).alloc (Nat.le_refl _) _).trans (HR.out.2.mono (by omega))⟩
        exact .mk (by simp only [Ct.ps]; omega) (fun j hj => HR.out.1 j hj hj)

end Go.Proofs.YtknmfohipdjlpabGreatDoor
