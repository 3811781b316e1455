/- The reference: PartitionFault. -/
import Derived.Test.YtmifenflbaohnaaDoorPtA
import Derived.Test.YtmifenflbaohnaaDoorSv
import Derived.BigQuiet
set_option linter.unusedSimpArgs false
set_option linter.unusedVariables false
set_option maxRecDepth 100000
namespace Go.Proofs.YtmifenflbaohnaaDoor
open Go.RowKit

set_option maxRecDepth 100000 in
set_option maxHeartbeats 2000000 in
theorem refPartitionFault_any (v : Value) (l : List Int) (w : World) (h : IS w v l) (hl0 : l.length ≤ 140737488355328) (hb : ∀ x ∈ l, -9223372036854775808 ≤ x ∧ x ≤ 9223372036854775807) :
    Calls Tryd.prog 16 #[v] w fun e w' => e = .returned (.agg #[.int .i64 (PT.pf l).1, .int .i64 (PT.pf l).2]) ∧ Below w.heap.size w w' := by
  obtain ⟨aa, g, o, cap, rfl, ha, hc⟩ := h.open'
  have HA : Hid (0 < l.length → aa = some ⟨g, o, none⟩) := ha
  have HC : Hid (∀ W, Below w.heap.size w W → ∀ i, i < l.length → W.cell? ⟨g, o + i, none⟩ = some (.int .i64 (l.getD i 0))) := hc
  have HBd : Hid (∀ i, i < l.length → -9223372036854775808 ≤ l.getD i 0 ∧ l.getD i 0 ≤ 9223372036854775807) := fun i hi => by
    rw [List.getD_eq_getElem?_getD, List.getElem?_eq_getElem hi]; exact hb _ (List.getElem_mem hi)
  obtain ⟨N, hN⟩ : ∃ N, N = l.length := ⟨_, rfl⟩
  have HN : Hid (N = l.length) := hN
  rw [← hN] at hl0
  rw [← hN]
  clear h ha hc hb hN
  by_cases hl : 1000 < N
  · have HPf : Hid (PT.pf l = (2, 0)) := by show _ = _; unfold PT.pf; rw [if_pos (by have := HN.out; omega)]
    have tl : decide (1000 < (N : Int)) = true := decide_eq_true (by omega)
    go_enter Tryd.func16, Tryd.ntmps16
    go_wp2_with fail
    have S1 := Sv.new 0 0 w
    have K1 : Below w.heap.size w (w.alloc (.cells #[.int .i64 0, .int .i64 0] 23)) := Below.alloc (Below.refl _ _) (Nat.le_refl _) _
    refine (F_any 2 0 _).mono ?_
    rintro e w5 ⟨rfl, k5⟩
    have S5 := S1.below k5
    have K5 : Below w.heap.size w w5 := K1.trans (k5.mono K1.size)
    obtain ⟨u0, u1, u2, u3, u4⟩ := S5
    have HK6 : Hid (Below w.heap.size w ((w5.setCell ⟨w.heap.size, 0, none⟩ (.int .i64 2)).setCell ⟨w.heap.size, 1, none⟩ (.int .i64 0))) := (K5.setCell (Nat.le_refl _) _).setCell (Nat.le_refl _) _
    clear k5 K5 K1 S1
    go_wp2
    refine bodyPost_ret (v := .agg #[.int .i64 2, .int .i64 0]) (by simp [results, Tryd.results16, go_sem, u0, u1, u4]) rfl ⟨?_, HK6.out⟩
    rw [HPf.out]
  · have HPe : Hid (PT.pf l = PT.pfr 0 0 0 l) := by show _ = _; unfold PT.pf; rw [if_neg (by have := HN.out; omega)]
    have tl : decide (1000 < (N : Int)) = false := decide_eq_false (by omega)
    have hl1 : N ≤ 1000 := by omega
    go_enter Tryd.func16, Tryd.ntmps16
    go_wp2
    have S1 := Sv.new 0 0 w
    have K1 : Below w.heap.size w (w.alloc (.cells #[.int .i64 0, .int .i64 0] 23)) := Below.alloc (Below.refl _ _) (Nat.le_refl _) _
    obtain ⟨W1, hW1⟩ : ∃ W, W = w.alloc (.cells #[.int .i64 0, .int .i64 0] 23) := ⟨_, rfl⟩
    rw [← hW1] at S1 K1
    rw [← hW1]
    have HB0 : Hid (Sv w.heap.size 0 0 W1 ∧ Below w.heap.size w W1) := ⟨S1, K1⟩
    clear hW1 S1 K1
    go_loopg [3, 4] N (fun gk sv iv wx => ∃ (i : Nat) (s : Int), sv = .int .i64 s ∧ iv = .int .i64 (i : Int) ∧ Hid (gk = N - i ∧ i ≤ N ∧ s = (l.take i).sum ∧ PT.At l i ∧ Sv w.heap.size 0 0 wx ∧ Below w.heap.size w wx))
    case atStart => exact ⟨0, 0, rfl, rfl, rfl, by omega, by simp, PT.At.zero l, HB0.out⟩
    case round =>
      clear HB0
      obtain ⟨i, s, rfl, rfl, HR⟩ := hrel
      obtain ⟨h1, h2, h3, h4, h5, h6⟩ := HR.out
      have HW : Hid (Sv w.heap.size 0 0 wr ∧ Below w.heap.size w wr) := ⟨h5, h6⟩
      have HK : Hid (gk = N - i) := h1
      have HAt : Hid (PT.At l i) := h4
      have HSs : Hid (s = (l.take i).sum) := h3
      have hs0 : 0 ≤ s ∧ s ≤ 2000 := by rw [h3]; exact h4.2
      clear HR h1 h3 h4 h5 h6
      by_cases hi : i < N
      · have ti : decide ((i : Int) < (N : Int)) = true := decide_eq_true (by omega)
        have hil : i < l.length := by have := HN.out; omega
        obtain rfl := HA.out (by omega)
        have c0 := HC.out _ HW.out.2 i hil
        have hbx := HBd.out i hil
        obtain ⟨x, hx⟩ : ∃ x, l.getD i 0 = x := ⟨_, rfl⟩
        have HX : Hid (l.getD i 0 = x) := hx
        rw [hx] at c0 hbx
        have x1 : (i : Int) < (N : Int) := by omega
        clear hx
        by_cases e1 : x < 1
        · have te : decide (x < 1) = true := decide_eq_true e1
          have HPf : Hid (PT.pf l = (3, (i : Int))) := by show _ = _; rw [HPe.out]; exact HAt.out.f3 hil (by rw [HX.out]; exact .inl e1)
          clear e1
          go_wp2_with fail
          refine (F_any 3 (i : Int) _).mono ?_
          rintro e w5 ⟨rfl, k5⟩
          have S5 := HW.out.1.below k5
          have K5 : Below w.heap.size w w5 := HW.out.2.trans (k5.mono HW.out.2.size)
          obtain ⟨u0, u1, u2, u3, u4⟩ := S5
          have HK6 : Hid (Below w.heap.size w ((w5.setCell ⟨w.heap.size, 0, none⟩ (.int .i64 3)).setCell ⟨w.heap.size, 1, none⟩ (.int .i64 (i : Int)))) := (K5.setCell (Nat.le_refl _) _).setCell (Nat.le_refl _) _
          clear k5 K5
          go_wp2
          refine bodyPost_ret (v := .agg #[.int .i64 3, .int .i64 (i : Int)]) (by simp [results, Tryd.results16, go_sem, u0, u1, u4]) rfl ⟨?_, HK6.out⟩
          rw [HPf.out]
        · have te : decide (x < 1) = false := decide_eq_false e1
          by_cases e2 : 2000 < x
          · have te2 : decide (2000 < x) = true := decide_eq_true e2
            have HPf : Hid (PT.pf l = (3, (i : Int))) := by show _ = _; rw [HPe.out]; exact HAt.out.f3 hil (by rw [HX.out]; exact .inr e2)
            clear e2
            go_wp2_with fail
            refine (F_any 3 (i : Int) _).mono ?_
            rintro e w5 ⟨rfl, k5⟩
            have S5 := HW.out.1.below k5
            have K5 : Below w.heap.size w w5 := HW.out.2.trans (k5.mono HW.out.2.size)
            obtain ⟨u0, u1, u2, u3, u4⟩ := S5
            have HK6 : Hid (Below w.heap.size w ((w5.setCell ⟨w.heap.size, 0, none⟩ (.int .i64 3)).setCell ⟨w.heap.size, 1, none⟩ (.int .i64 (i : Int)))) := (K5.setCell (Nat.le_refl _) _).setCell (Nat.le_refl _) _
            clear k5 K5
            go_wp2
            refine bodyPost_ret (v := .agg #[.int .i64 3, .int .i64 (i : Int)]) (by simp [results, Tryd.results16, go_sem, u0, u1, u4]) rfl ⟨?_, HK6.out⟩
            rw [HPf.out]
          · have te2 : decide (2000 < x) = false := decide_eq_false e2
            have hsx : s + x ≤ 4000 ∧ 0 ≤ s + x := by omega
            have hgd : ¬ (l.getD i 0 < 1 ∨ 2000 < l.getD i 0) := by rw [HX.out]; omega
            by_cases h0 : i = 0
            · have HNp : Hid (¬ (0 < i ∧ PT.prv l i < l.getD i 0)) := by show ¬ _; omega
              have t0 : decide (0 < (i : Int)) = false := decide_eq_false (by omega)
              have t0n : decide (0 < i) = false := decide_eq_false (by omega)
              clear h0
              by_cases e4 : 2000 < s + x
              · have te4 : decide (2000 < s + x) = true := decide_eq_true e4
                have HPf : Hid (PT.pf l = (9, (i : Int))) := by show _ = _; rw [HPe.out]; exact HAt.out.f9 hil hgd HNp.out (by rw [HX.out, ← HSs.out]; exact e4)
                clear e4 hgd
                go_wp2_with fail
                go_quiet (fail)
                go_wp2_with fail
                refine (F_any 9 (i : Int) _).mono ?_
                rintro e w5 ⟨rfl, k5⟩
                have S5 := (Sv.drewN HW.out.1).below k5
                have K5 : Below w.heap.size w w5 := (below_drewN' HW.out.2).trans (k5.mono (below_drewN' HW.out.2).size)
                obtain ⟨u0, u1, u2, u3, u4⟩ := S5
                have HK6 : Hid (Below w.heap.size w ((w5.setCell ⟨w.heap.size, 0, none⟩ (.int .i64 9)).setCell ⟨w.heap.size, 1, none⟩ (.int .i64 (i : Int)))) := (K5.setCell (Nat.le_refl _) _).setCell (Nat.le_refl _) _
                clear k5 K5
                go_wp2
                refine bodyPost_ret (v := .agg #[.int .i64 9, .int .i64 (i : Int)]) (by simp [results, Tryd.results16, go_sem, u0, u1, u4]) rfl ⟨?_, HK6.out⟩
                rw [HPf.out]
              · have te4 : decide (2000 < s + x) = false := decide_eq_false e4
                have HSt : Hid (PT.At l (i + 1) ∧ s + x = (l.take (i + 1)).sum) := ⟨HAt.out.step hil (by rw [HX.out]; omega) (by rw [HX.out]; omega) HNp.out (by rw [HX.out, ← HSs.out]; omega), by rw [PT.sum_s hil, HX.out, HSs.out]⟩
                clear e4 hgd
                go_wp2_with fail
                go_quiet (fail)
                go_wp2
                go_roundg (N - (i + 1))
                case rel => exact ⟨i + 1, s + x, by go_num, by go_num, rfl, by omega, HSt.out.2, HSt.out.1, Sv.drewN HW.out.1, below_drewN' HW.out.2⟩
                case measure => have := HK.out; omega
            · obtain ⟨p, hp⟩ : ∃ p, i = p + 1 := ⟨i - 1, by omega⟩
              have t0 : decide (0 < (i : Int)) = true := decide_eq_true (by omega)
              have t0n : decide (0 < i) = true := decide_eq_true (by omega)
              have hpl : p < l.length := by omega
              have c1 := HC.out _ HW.out.2 p hpl
              have hip : (i : Int) - 1 = (p : Int) := by omega
              obtain ⟨y, hy⟩ : ∃ y, l.getD p 0 = y := ⟨_, rfl⟩
              have HY : Hid (PT.prv l i = y) := by show _ = _; rw [hp, PT.prv_s]; exact hy
              rw [hy] at c1
              have x2 : (p : Int) < (N : Int) := by omega
              have hwp : IntKind.i64.wrap (p : Int) = (p : Int) := by rw [IntKind.wrap_i64]; omega
              have hp0 : (0 : Int) ≤ (p : Int) := by omega
              have HI0 : Hid (0 < i) := by show _ < _; omega
              clear hy hp h0
              by_cases e3 : y < x
              · have te3 : decide (y < x) = true := decide_eq_true e3
                have HPf : Hid (PT.pf l = (6, (i : Int))) := by show _ = _; rw [HPe.out]; exact HAt.out.f6 hil hgd ⟨HI0.out, by rw [HX.out, HY.out]; exact e3⟩
                clear e3 hgd
                go_wp2_with fail
                go_quiet (fail)
                go_wp2_with fail
                refine (F_any 6 (i : Int) _).mono ?_
                rintro e w5 ⟨rfl, k5⟩
                have S5 := (Sv.drewN HW.out.1).below k5
                have K5 : Below w.heap.size w w5 := (below_drewN' HW.out.2).trans (k5.mono (below_drewN' HW.out.2).size)
                obtain ⟨u0, u1, u2, u3, u4⟩ := S5
                have HK6 : Hid (Below w.heap.size w ((w5.setCell ⟨w.heap.size, 0, none⟩ (.int .i64 6)).setCell ⟨w.heap.size, 1, none⟩ (.int .i64 (i : Int)))) := (K5.setCell (Nat.le_refl _) _).setCell (Nat.le_refl _) _
                clear k5 K5
                go_wp2
                refine bodyPost_ret (v := .agg #[.int .i64 6, .int .i64 (i : Int)]) (by simp [results, Tryd.results16, go_sem, u0, u1, u4]) rfl ⟨?_, HK6.out⟩
                rw [HPf.out]
              · have te3 : decide (y < x) = false := decide_eq_false e3
                have HNp : Hid (¬ (0 < i ∧ PT.prv l i < l.getD i 0)) := by show ¬ _; rw [HX.out, HY.out]; exact fun h => e3 h.2
                clear e3
                by_cases e4 : 2000 < s + x
                · have te4 : decide (2000 < s + x) = true := decide_eq_true e4
                  have HPf : Hid (PT.pf l = (9, (i : Int))) := by show _ = _; rw [HPe.out]; exact HAt.out.f9 hil hgd HNp.out (by rw [HX.out, ← HSs.out]; exact e4)
                  clear e4 hgd
                  go_wp2_with fail
                  go_quiet (fail)
                  go_wp2_with fail
                  refine (F_any 9 (i : Int) _).mono ?_
                  rintro e w5 ⟨rfl, k5⟩
                  have S5 := (Sv.drewN HW.out.1).below k5
                  have K5 : Below w.heap.size w w5 := (below_drewN' HW.out.2).trans (k5.mono (below_drewN' HW.out.2).size)
                  obtain ⟨u0, u1, u2, u3, u4⟩ := S5
                  have HK6 : Hid (Below w.heap.size w ((w5.setCell ⟨w.heap.size, 0, none⟩ (.int .i64 9)).setCell ⟨w.heap.size, 1, none⟩ (.int .i64 (i : Int)))) := (K5.setCell (Nat.le_refl _) _).setCell (Nat.le_refl _) _
                  clear k5 K5
                  go_wp2
                  refine bodyPost_ret (v := .agg #[.int .i64 9, .int .i64 (i : Int)]) (by simp [results, Tryd.results16, go_sem, u0, u1, u4]) rfl ⟨?_, HK6.out⟩
                  rw [HPf.out]
                · have te4 : decide (2000 < s + x) = false := decide_eq_false e4
                  have HSt : Hid (PT.At l (i + 1) ∧ s + x = (l.take (i + 1)).sum) := ⟨HAt.out.step hil (by rw [HX.out]; omega) (by rw [HX.out]; omega) HNp.out (by rw [HX.out, ← HSs.out]; omega), by rw [PT.sum_s hil, HX.out, HSs.out]⟩
                  clear e4 hgd
                  go_wp2_with fail
                  go_quiet (fail)
                  go_wp2
                  go_roundg (N - (i + 1))
                  case rel => exact ⟨i + 1, s + x, by go_num, by go_num, rfl, by omega, HSt.out.2, HSt.out.1, Sv.drewN HW.out.1, below_drewN' HW.out.2⟩
                  case measure => have := HK.out; omega
      · have ti : decide ((i : Int) < (N : Int)) = false := decide_eq_false (by omega)
        have HPf : Hid (PT.pf l = (0, 0)) := by
          show _ = _
          rw [HPe.out]
          have := HAt.out
          rw [show i = l.length by have := HN.out; omega] at this
          exact this.fin
        obtain ⟨u0, u1, u2, u3, u4⟩ := HW.out.1
        have HK6 : Hid (Below w.heap.size w ((wr.setCell ⟨w.heap.size, 0, none⟩ (.int .i64 0)).setCell ⟨w.heap.size, 1, none⟩ (.int .i64 0))) := (HW.out.2.setCell (Nat.le_refl _) _).setCell (Nat.le_refl _) _
        go_wp2
        refine bodyPost_ret (v := .agg #[.int .i64 0, .int .i64 0]) (by simp [results, Tryd.results16, go_sem, u0, u1, u4]) rfl ⟨?_, HK6.out⟩
        rw [HPf.out]

end Go.Proofs.YtmifenflbaohnaaDoor
