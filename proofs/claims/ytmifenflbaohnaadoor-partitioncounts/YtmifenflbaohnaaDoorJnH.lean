import Derived.Test.YtmifenflbaohnaaDoorJnC
import Derived.Test.YtmifenflbaohnaaDoorJnF
section
/- The reference's Ints: two lists of numbers that are the same. -/
set_option linter.unusedSimpArgs false
set_option linter.unusedVariables false
set_option maxRecDepth 100000
namespace Go.Proofs.YtmifenflbaohnaaDoor
open Go.RowKit

set_option maxHeartbeats 1000000 in
theorem refInts_same (s t : Value) (xs : List Int) (w : World) (hs : IS w s xs) (ht : IS w t xs) (hl : xs.length ≤ 9000000000000000000) :
    Calls Tryd.prog 17 #[s, t] w fun e w' => e = .returned (.bool true) ∧ ∃ q, w' = w.drewN q := by
  obtain ⟨a1, g1, o1, c1, rfl, p1, cell1, lt1⟩ := hs.shape
  obtain ⟨a2, g2, o2, c2, rfl, p2, cell2, lt2⟩ := ht.shape
  clear hs ht
  have P1 : Hid (0 < xs.length → a1 = some ⟨g1, o1, none⟩) := p1
  have P2 : Hid (0 < xs.length → a2 = some ⟨g2, o2, none⟩) := p2
  have C1 : Hid (∀ i, i < xs.length → w.cell? ⟨g1, o1 + i, none⟩ = some (.int .i64 (xs.getD i 0))) := cell1
  have C2 : Hid (∀ i, i < xs.length → w.cell? ⟨g2, o2 + i, none⟩ = some (.int .i64 (xs.getD i 0))) := cell2
  clear p1 p2 cell1 cell2 lt1 lt2
  go_enter Tryd.func17, Tryd.ntmps17
  go_wp2
  go_loopw [5] (fun iv wx => ∃ k : Nat, k ≤ xs.length ∧ iv = .int .i64 k ∧ Hid (∃ q, wx = w.drewN q)) (fun iv _ => xs.length - (intOf iv).toNat)
  case atStart => exact ⟨0, Nat.zero_le _, rfl, 0, rfl⟩
  case round =>
    obtain ⟨k, hk, rfl, HW⟩ := hrel
    by_cases hlt : k < xs.length
    · obtain rfl := P1.out (by omega)
      obtain rfl := P2.out (by omega)
      have q1 : wr.cell? ⟨g1, o1 + k, none⟩ = some (.int .i64 (xs.getD k 0)) := by obtain ⟨q, e⟩ := HW.out; rw [e]; exact C1.out k hlt
      have q2 : wr.cell? ⟨g2, o2 + k, none⟩ = some (.int .i64 (xs.getD k 0)) := by obtain ⟨q, e⟩ := HW.out; rw [e]; exact C2.out k hlt
      generalize xs.getD k 0 = x at q1 q2
      go_wp2
      go_quiet (fail)
      go_wp2
      go_roundw
      case rel => exact ⟨k + 1, by omega, by go_num, drewN_more HW.out _⟩
      case measure => simp [intOf]; omega
    · obtain rfl : k = xs.length := by omega
      go_wp2
      go_ret
      exact ⟨rfl, HW.out⟩

end Go.Proofs.YtmifenflbaohnaaDoor
end

section
/- The reference's Ints: two lists of numbers, whatever they are. -/
set_option linter.unusedSimpArgs false
set_option linter.unusedVariables false
set_option maxRecDepth 100000
namespace Go.Proofs.YtmifenflbaohnaaDoor
open Go.RowKit

theorem ext_getD {xs ys : List Int} (hl : xs.length = ys.length) (h : ∀ i, i < xs.length → xs.getD i 0 = ys.getD i 0) : xs = ys := by
  apply List.ext_getElem hl
  intro i h1 h2
  have := h i h1
  simpa [List.getD_eq_getElem?_getD, List.getElem?_eq_getElem h1, List.getElem?_eq_getElem h2] using this

set_option maxHeartbeats 1000000 in
theorem refInts_any (s t : Value) (xs ys : List Int) (w : World) (hs : IS w s xs) (ht : IS w t ys) (hl : xs.length ≤ 9000000000000000000) (hm : ys.length ≤ 9000000000000000000) :
    Calls Tryd.prog 17 #[s, t] w fun e w' => e = .returned (.bool (decide (xs = ys))) ∧ ∃ q, w' = w.drewN q := by
  obtain ⟨a1, g1, o1, c1, rfl, p1, cell1, lt1⟩ := hs.shape
  obtain ⟨a2, g2, o2, c2, rfl, p2, cell2, lt2⟩ := ht.shape
  clear hs ht
  have P1 : Hid (0 < xs.length → a1 = some ⟨g1, o1, none⟩) := p1
  have P2 : Hid (0 < ys.length → a2 = some ⟨g2, o2, none⟩) := p2
  have C1 : Hid (∀ i, i < xs.length → w.cell? ⟨g1, o1 + i, none⟩ = some (.int .i64 (xs.getD i 0))) := cell1
  have C2 : Hid (∀ i, i < ys.length → w.cell? ⟨g2, o2 + i, none⟩ = some (.int .i64 (ys.getD i 0))) := cell2
  clear p1 p2 cell1 cell2 lt1 lt2
  by_cases hlen : xs.length = ys.length
  · obtain ⟨bE, hE⟩ : ∃ b, decide (xs = ys) = b := ⟨_, rfl⟩
    have HE : Hid (decide (xs = ys) = bE) := hE
    have HLn : Hid (xs.length = ys.length) := hlen
    rw [hE]
    clear hE
    obtain ⟨n, hn⟩ : ∃ n, n = xs.length := ⟨_, rfl⟩
    have HNn : Hid (n = xs.length) := hn
    rw [← hlen, ← hn]
    rw [← hn] at hl
    clear hlen hm hn
    go_enter Tryd.func17, Tryd.ntmps17
    go_wp2
    go_loopw [5] (fun iv wx => ∃ k : Nat, k ≤ n ∧ iv = .int .i64 k ∧ Hid ((∀ i, i < k → xs.getD i 0 = ys.getD i 0) ∧ ∃ q, wx = w.drewN q)) (fun iv _ => n - (intOf iv).toNat)
    case atStart => exact ⟨0, Nat.zero_le _, rfl, fun i hi => by omega, 0, rfl⟩
    case round =>
      obtain ⟨k, hk, rfl, HW⟩ := hrel
      by_cases hlt : k < n
      · obtain rfl := P1.out (by have := HNn.out; omega)
        obtain rfl := P2.out (by have := HNn.out; have := HLn.out; omega)
        have q1 : wr.cell? ⟨g1, o1 + k, none⟩ = some (.int .i64 (xs.getD k 0)) := by obtain ⟨_, q, e⟩ := HW.out; rw [e]; exact C1.out k (by have := HNn.out; omega)
        have q2 : wr.cell? ⟨g2, o2 + k, none⟩ = some (.int .i64 (ys.getD k 0)) := by obtain ⟨_, q, e⟩ := HW.out; rw [e]; exact C2.out k (by have := HNn.out; have := HLn.out; omega)
        obtain ⟨u, hu⟩ : ∃ u, xs.getD k 0 = u := ⟨_, rfl⟩
        obtain ⟨v, hv⟩ : ∃ v, ys.getD k 0 = v := ⟨_, rfl⟩
        rw [hu] at q1
        rw [hv] at q2
        by_cases huv : u = v
        · subst huv
          have HN : Hid (∀ i, i < k + 1 → xs.getD i 0 = ys.getD i 0) := fun i hi => by
            by_cases h : i < k
            · exact HW.out.1 i h
            · obtain rfl : i = k := by omega
              rw [hu, hv]
          clear hu hv
          go_wp2
          go_quiet (fail)
          go_wp2
          go_roundw
          case rel => exact ⟨k + 1, by omega, by go_num, HN.out, drewN_more HW.out.2 _⟩
          case measure => simp [intOf]; omega
        · have hne : (u != v) = true := by simpa using huv
          obtain rfl : bE = false := by
            rw [← HE.out]
            apply decide_eq_false
            intro e
            rw [e] at hu
            exact huv (hu.symm.trans hv)
          clear hu hv huv
          go_wp2
          go_quiet (fail)
          go_wp2
          go_ret
          exact ⟨rfl, drewN_more HW.out.2 _⟩
      · obtain rfl : k = n := by omega
        obtain rfl : bE = true := by
          rw [← HE.out]
          apply decide_eq_true
          exact ext_getD HLn.out (fun i hi => HW.out.1 i (by have := HNn.out; omega))
        go_wp2
        go_ret
        exact ⟨rfl, HW.out.2⟩
  · have hb : ((xs.length : Int) != (ys.length : Int)) = true := by simp; omega
    rw [decide_eq_false (fun e => hlen (by rw [e]))]
    clear hlen
    go_enter Tryd.func17, Tryd.ntmps17
    go_wp2
    go_ret
    exact ⟨rfl, 0, rfl⟩

end Go.Proofs.YtmifenflbaohnaaDoor
end
