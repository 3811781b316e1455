/- The program: partition.Check. -/
import Derived.Test.YtmifenflbaohnaaGreatDoorPtF
set_option linter.unusedSimpArgs false
set_option linter.unusedVariables false
set_option maxRecDepth 100000
namespace Go.Proofs.YtmifenflbaohnaaGreatDoor
open Go.RowKit

set_option maxRecDepth 100000 in
set_option maxHeartbeats 2000000 in
theorem pCheck_any (v : Value) (l : List Int) (w : World) (h : IS w v l) (hI : I64 l) :
    Calls Tryz.prog 46 #[v] w fun e w' => e = .returned (fagg l) ∧ Below w.heap.size w w' := by
  obtain ⟨aa, g, o, cap, rfl, ha, hc, hg⟩ := h.shape
  have HA : Hid (0 < l.length → aa = some ⟨g, o, none⟩ ∧ g < w.heap.size) := fun h => ⟨ha h, hg h⟩
  have HC : Hid (∀ i, i < l.length → w.cell? ⟨g, o + i, none⟩ = some (.int .i64 (l.getD i 0))) := hc
  have HBd : Hid (∀ i, i < l.length → -9223372036854775808 ≤ l.getD i 0 ∧ l.getD i 0 ≤ 9223372036854775807) := fun i hi => by
    rw [List.getD_eq_getElem?_getD, List.getElem?_eq_getElem hi]; exact hI.2 _ (List.getElem_mem hi)
  have hl0 : l.length ≤ 140737488351232 := by have := hI.1; omega
  obtain ⟨N, hN⟩ : ∃ N, N = l.length := ⟨_, rfl⟩
  have HN : Hid (N = l.length) := hN
  rw [← hN] at hl0
  rw [← hN]
  clear h ha hc hN hI hg
  by_cases hl : 1000 < N
  · have HPf : Hid (PT.pf l = (2, 0)) := by show _ = _; unfold PT.pf; rw [if_pos (by have := HN.out; omega)]
    have tl : decide (1000 < (N : Int)) = true := decide_eq_true (by omega)
    go_enter Tryz.func46, Tryz.ntmps46
    go_wp2
    refine bodyPost_ret (v := .agg #[.int .i64 2, .int .i64 0]) (by simp [results, Tryz.results46, go_sem]) rfl ⟨?_, below_one w _⟩
    unfold fagg
    rw [HPf.out]
  · have HPe : Hid (PT.pf l = PT.pfr 0 0 0 l) := by show _ = _; unfold PT.pf; rw [if_neg (by have := HN.out; omega)]
    have tl : decide (1000 < (N : Int)) = false := decide_eq_false (by omega)
    have hl1 : N ≤ 1000 := by omega
    go_enter Tryz.func46, Tryz.ntmps46
    go_wp2
    go_loop [3, 12] (fun sv iv => ∃ (i : Nat) (s : Int), sv = .int .i64 s ∧ iv = .int .i64 (i : Int) ∧ Hid (i ≤ N ∧ s = (l.take i).sum ∧ PT.At l i)) (fun _ iv => N - (intOf iv).toNat)
    case atStart => exact ⟨0, 0, rfl, rfl, by omega, by simp, PT.At.zero l⟩
    case round =>
      obtain ⟨i, s, rfl, rfl, HR⟩ := hrel
      obtain ⟨h2, h3, h4⟩ := HR.out
      have HAt : Hid (PT.At l i) := h4
      have HSs : Hid (s = (l.take i).sum) := h3
      have hs0 : 0 ≤ s ∧ s ≤ 2000 := by rw [h3]; exact h4.2
      clear HR h3 h4
      by_cases hi : i < N
      · have ti : decide ((i : Int) < (N : Int)) = true := decide_eq_true (by omega)
        have hil : i < l.length := by have := HN.out; omega
        obtain ⟨rfl, hgl⟩ := HA.out (by omega)
        have c0 := HC.out i hil
        have hbx := HBd.out i hil
        obtain ⟨x, hx⟩ : ∃ x, l.getD i 0 = x := ⟨_, rfl⟩
        have HX : Hid (l.getD i 0 = x) := hx
        rw [hx] at c0 hbx
        clear hx
        by_cases e1 : x < 1
        · have te : decide (x < 1) = true := decide_eq_true e1
          have HPf : Hid (PT.pf l = (3, (i : Int))) := by show _ = _; rw [HPe.out]; exact HAt.out.f3 hil (by rw [HX.out]; exact .inl e1)
          clear e1
          go_wp2
          refine bodyPost_ret (v := .agg #[.int .i64 3, .int .i64 (i : Int)]) (by simp [results, Tryz.results46, go_sem]) rfl ⟨?_, below_one w _⟩
          unfold fagg
          rw [HPf.out]
        · have te : decide (x < 1) = false := decide_eq_false e1
          by_cases e2 : 2000 < x
          · have te2 : decide (2000 < x) = true := decide_eq_true e2
            have HPf : Hid (PT.pf l = (3, (i : Int))) := by show _ = _; rw [HPe.out]; exact HAt.out.f3 hil (by rw [HX.out]; exact .inr e2)
            clear e2
            go_wp2
            refine bodyPost_ret (v := .agg #[.int .i64 3, .int .i64 (i : Int)]) (by simp [results, Tryz.results46, go_sem]) rfl ⟨?_, below_one w _⟩
            unfold fagg
            rw [HPf.out]
          · have te2 : decide (2000 < x) = false := decide_eq_false e2
            have hsx : s + x ≤ 4000 ∧ 0 ≤ s + x := by omega
            have hgd : ¬ (l.getD i 0 < 1 ∨ 2000 < l.getD i 0) := by rw [HX.out]; omega
            by_cases h0 : i = 0
            · have HNp : Hid (¬ (0 < i ∧ PT.prv l i < l.getD i 0)) := by show ¬ _; omega
              have t0 : decide (0 < (i : Int)) = false := decide_eq_false (by omega)
              have t0n : decide (0 < i) = false := decide_eq_false (by omega)
              clear h0
              by_cases e4 : 2000 < s + x
              · have te4 : decide (2000 < s + x) = true := decide_eq_true e4
                have HPf : Hid (PT.pf l = (9, (i : Int))) := by show _ = _; rw [HPe.out]; exact HAt.out.f9 hil hgd HNp.out (by rw [HX.out, ← HSs.out]; exact e4)
                clear e4 hgd
                go_wp2
                refine bodyPost_ret (v := .agg #[.int .i64 9, .int .i64 (i : Int)]) (by simp [results, Tryz.results46, go_sem]) rfl ⟨?_, below_one w _⟩
                unfold fagg
                rw [HPf.out]
              · have te4 : decide (2000 < s + x) = false := decide_eq_false e4
                have HSt : Hid (PT.At l (i + 1) ∧ s + x = (l.take (i + 1)).sum) := ⟨HAt.out.step hil (by rw [HX.out]; omega) (by rw [HX.out]; omega) HNp.out (by rw [HX.out, ← HSs.out]; omega), by rw [PT.sum_s hil, HX.out, HSs.out]⟩
                clear e4 hgd
                go_wp2
                go_round
                case rel => exact ⟨i + 1, s + x, by go_num, by go_num, by omega, HSt.out.2, HSt.out.1⟩
                case measure => simp [intOf]; omega
            · obtain ⟨p, hp⟩ : ∃ p, i = p + 1 := ⟨i - 1, by omega⟩
              have t0 : decide (0 < (i : Int)) = true := decide_eq_true (by omega)
              have t0n : decide (0 < i) = true := decide_eq_true (by omega)
              have hpl : p < l.length := by omega
              have c1 := HC.out p hpl
              have hip : (i : Int) - 1 = (p : Int) := by omega
              obtain ⟨y, hy⟩ : ∃ y, l.getD p 0 = y := ⟨_, rfl⟩
              have HY : Hid (PT.prv l i = y) := by show _ = _; rw [hp, PT.prv_s]; exact hy
              rw [hy] at c1
              have x2 : (p : Int) < (N : Int) := by omega
              have hwp : IntKind.i64.wrap (p : Int) = (p : Int) := by rw [IntKind.wrap_i64]; omega
              have hp0 : (0 : Int) ≤ (p : Int) := by omega
              have HI0 : Hid (0 < i) := by show _ < _; omega
              clear hy hp h0
              by_cases e3 : y < x
              · have te3 : decide (y < x) = true := decide_eq_true e3
                have HPf : Hid (PT.pf l = (6, (i : Int))) := by show _ = _; rw [HPe.out]; exact HAt.out.f6 hil hgd ⟨HI0.out, by rw [HX.out, HY.out]; exact e3⟩
                clear e3 hgd
                go_wp2
                refine bodyPost_ret (v := .agg #[.int .i64 6, .int .i64 (i : Int)]) (by simp [results, Tryz.results46, go_sem]) rfl ⟨?_, below_one w _⟩
                unfold fagg
                rw [HPf.out]
              · have te3 : decide (y < x) = false := decide_eq_false e3
                have HNp : Hid (¬ (0 < i ∧ PT.prv l i < l.getD i 0)) := by show ¬ _; rw [HX.out, HY.out]; exact fun h => e3 h.2
                clear e3
                by_cases e4 : 2000 < s + x
                · have te4 : decide (2000 < s + x) = true := decide_eq_true e4
                  have HPf : Hid (PT.pf l = (9, (i : Int))) := by show _ = _; rw [HPe.out]; exact HAt.out.f9 hil hgd HNp.out (by rw [HX.out, ← HSs.out]; exact e4)
                  clear e4 hgd
                  go_wp2
                  refine bodyPost_ret (v := .agg #[.int .i64 9, .int .i64 (i : Int)]) (by simp [results, Tryz.results46, go_sem]) rfl ⟨?_, below_one w _⟩
                  unfold fagg
                  rw [HPf.out]
                · have te4 : decide (2000 < s + x) = false := decide_eq_false e4
                  have HSt : Hid (PT.At l (i + 1) ∧ s + x = (l.take (i + 1)).sum) := ⟨HAt.out.step hil (by rw [HX.out]; omega) (by rw [HX.out]; omega) HNp.out (by rw [HX.out, ← HSs.out]; omega), by rw [PT.sum_s hil, HX.out, HSs.out]⟩
                  clear e4 hgd
                  go_wp2
                  go_round
                  case rel => exact ⟨i + 1, s + x, by go_num, by go_num, by omega, HSt.out.2, HSt.out.1⟩
                  case measure => simp [intOf]; omega
      · have ti : decide ((i : Int) < (N : Int)) = false := decide_eq_false (by omega)
        have HPf : Hid (PT.pf l = (0, 0)) := by
          show _ = _
          rw [HPe.out]
          have := HAt.out
          rw [show i = l.length by have := HN.out; omega] at this
          exact this.fin
        go_wp2
        refine bodyPost_ret (v := .agg #[.int .i64 0, .int .i64 0]) (by simp [results, Tryz.results46, go_sem]) rfl ⟨?_, below_one w _⟩
        unfold fagg
        rw [HPf.out]

end Go.Proofs.YtmifenflbaohnaaGreatDoor
