/- The reference's Ints: two lists of numbers that are the same. -/
import Derived.Test.YtcbepaionliepaaWholeF
import Derived.Test.YtcbepaionliepaaBigB
set_option linter.unusedSimpArgs false
set_option linter.unusedVariables false
set_option maxRecDepth 100000
namespace Go.Proofs.Ytcbepaionliepaa
open Go.RowKit

set_option maxHeartbeats 1000000 in
theorem refInts_same (s t : Value) (xs : List Int) (w : World) (hs : IS w s xs) (ht : IS w t xs) (hl : xs.length ≤ 9000000000000000000) :
    Calls Try.prog 24 #[s, t] w fun e w' => e = .returned (.bool true) ∧ ∃ q, w' = w.drewN q := by
  obtain ⟨a1, g1, o1, c1, rfl, p1, cell1, lt1⟩ := hs.shape
  obtain ⟨a2, g2, o2, c2, rfl, p2, cell2, lt2⟩ := ht.shape
  clear hs ht
  have P1 : Hid (0 < xs.length → a1 = some ⟨g1, o1, none⟩) := p1
  have P2 : Hid (0 < xs.length → a2 = some ⟨g2, o2, none⟩) := p2
  have C1 : Hid (∀ i, i < xs.length → w.cell? ⟨g1, o1 + i, none⟩ = some (.int .i64 (xs.getD i 0))) := cell1
  have C2 : Hid (∀ i, i < xs.length → w.cell? ⟨g2, o2 + i, none⟩ = some (.int .i64 (xs.getD i 0))) := cell2
  clear p1 p2 cell1 cell2 lt1 lt2
  go_enter Try.func24, Try.ntmps24
  go_wp2
  go_loopw [5] (fun iv wx => ∃ k : Nat, k ≤ xs.length ∧ iv = .int .i64 k ∧ Hid (∃ q, wx = w.drewN q)) (fun iv _ => xs.length - (intOf iv).toNat)
  case atStart => exact ⟨0, Nat.zero_le _, rfl, 0, rfl⟩
  case round =>
    obtain ⟨k, hk, rfl, HW⟩ := hrel
    by_cases hlt : k < xs.length
    · obtain rfl := P1.out (by omega)
      obtain rfl := P2.out (by omega)
      have q1 : wr.cell? ⟨g1, o1 + k, none⟩ = some (.int .i64 (xs.getD k 0)) := by obtain ⟨q, e⟩ := HW.out; rw [e]; exact C1.out k hlt
      have q2 : wr.cell? ⟨g2, o2 + k, none⟩ = some (.int .i64 (xs.getD k 0)) := by obtain ⟨q, e⟩ := HW.out; rw [e]; exact C2.out k hlt
      generalize xs.getD k 0 = x at q1 q2
      go_wp2
      go_quiet (fail)
      go_wp2
      go_roundw
      case rel => exact ⟨k + 1, by omega, by go_num, drewN_more HW.out _⟩
      case measure => simp [intOf]; omega
    · obtain rfl : k = xs.length := by omega
      go_wp2
      go_ret
      exact ⟨rfl, HW.out⟩

end Go.Proofs.Ytcbepaionliepaa
