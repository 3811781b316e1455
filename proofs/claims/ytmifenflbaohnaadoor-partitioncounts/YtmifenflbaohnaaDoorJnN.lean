import Derived.Test.YtmifenflbaohnaaDoorPtF
import Derived.Test.YtmifenflbaohnaaDoorJnD
section
/- The program: partition.Check. -/
set_option linter.unusedSimpArgs false
set_option linter.unusedVariables false
set_option maxRecDepth 100000
namespace Go.Proofs.YtmifenflbaohnaaDoor
open Go.RowKit

set_option maxRecDepth 100000 in
set_option maxHeartbeats 2000000 in
theorem pCheck_any (v : Value) (l : List Int) (w : World) (h : IS w v l) (hI : I64 l) :
    Calls Tryd.prog 14 #[v] w fun e w' => e = .returned (fagg l) ∧ Below w.heap.size w w' := by
  obtain ⟨aa, g, o, cap, rfl, ha, hc, hg⟩ := h.shape
  have HA : Hid (0 < l.length → aa = some ⟨g, o, none⟩ ∧ g < w.heap.size) := fun h => ⟨ha h, hg h⟩
  have HC : Hid (∀ i, i < l.length → w.cell? ⟨g, o + i, none⟩ = some (.int .i64 (l.getD i 0))) := hc
  have HBd : Hid (∀ i, i < l.length → -9223372036854775808 ≤ l.getD i 0 ∧ l.getD i 0 ≤ 9223372036854775807) := fun i hi => by
    rw [List.getD_eq_getElem?_getD, List.getElem?_eq_getElem hi]; exact hI.2 _ (List.getElem_mem hi)
  have hl0 : l.length ≤ 140737488351232 := by have := hI.1; omega
  obtain ⟨N, hN⟩ : ∃ N, N = l.length := ⟨_, rfl⟩
  have HN : Hid (N = l.length) := hN
  rw [← hN] at hl0
  rw [← hN]
  clear h ha hc hN hI hg
  by_cases hl : 1000 < N
  · have HPf : Hid (PT.pf l = (2, 0)) := by show _ = _; unfold PT.pf; rw [if_pos (by have := HN.out; omega)]
    have tl : decide (1000 < (N : Int)) = true := decide_eq_true (by omega)
    go_enter Tryd.func14, Tryd.ntmps14
    go_wp2
    refine bodyPost_ret (v := .agg #[.int .i64 2, .int .i64 0]) (by simp [results, Tryd.results14, go_sem]) rfl ⟨?_, below_one w _⟩
    unfold fagg
    rw [HPf.out]
  · have HPe : Hid (PT.pf l = PT.pfr 0 0 0 l) := by show _ = _; unfold PT.pf; rw [if_neg (by have := HN.out; omega)]
    have tl : decide (1000 < (N : Int)) = false := decide_eq_false (by omega)
    have hl1 : N ≤ 1000 := by omega
    go_enter Tryd.func14, Tryd.ntmps14
    go_wp2
    go_loop [3, 12] (fun sv iv => ∃ (i : Nat) (s : Int), sv = .int .i64 s ∧ iv = .int .i64 (i : Int) ∧ Hid (i ≤ N ∧ s = (l.take i).sum ∧ PT.At l i)) (fun _ iv => N - (intOf iv).toNat)
    case atStart => exact ⟨0, 0, rfl, rfl, by omega, by simp, PT.At.zero l⟩
    case round =>
      obtain ⟨i, s, rfl, rfl, HR⟩ := hrel
      obtain ⟨h2, h3, h4⟩ := HR.out
      have HAt : Hid (PT.At l i) := h4
      have HSs : Hid (s = (l.take i).sum) := h3
      have hs0 : 0 ≤ s ∧ s ≤ 2000 := by rw [h3]; exact h4.2
      clear HR h3 h4
      by_cases hi : i < N
      · have ti : decide ((i : Int) < (N : Int)) = true := decide_eq_true (by omega)
        have hil : i < l.length := by have := HN.out; omega
        obtain ⟨rfl, hgl⟩ := HA.out (by omega)
        have c0 := HC.out i hil
        have hbx := HBd.out i hil
        obtain ⟨x, hx⟩ : ∃ x, l.getD i 0 = x := ⟨_, rfl⟩
        have HX : Hid (l.getD i 0 = x) := hx
        rw [hx] at c0 hbx
        clear hx
        by_cases e1 : x < 1
        · have te : decide (x < 1) = true := decide_eq_true e1
          have HPf : Hid (PT.pf l = (3, (i : Int))) := by show _ = _; rw [HPe.out]; exact HAt.out.f3 hil (by rw [HX.out]; exact .inl e1)
          clear e1
          go_wp2
          refine bodyPost_ret (v := .agg #[.int .i64 3, .int .i64 (i : Int)]) (by simp [results, Tryd.results14, go_sem]) rfl ⟨?_, below_one w _⟩
          unfold fagg
          rw [HPf.out]
        · have te : decide (x < 1) = false := decide_eq_false e1
          by_cases e2 : 2000 < x
          · have te2 : decide (2000 < x) = true := decide_eq_true e2
            have HPf : Hid (PT.pf l = (3, (i : Int))) := by show _ = _; rw [HPe.out]; exact HAt.out.f3 hil (by rw [HX.out]; exact .inr e2)
            clear e2
            go_wp2
            refine bodyPost_ret (v := .agg #[.int .i64 3, .int .i64 (i : Int)]) (by simp [results, Tryd.results14, go_sem]) rfl ⟨?_, below_one w _⟩
            unfold fagg
            rw [HPf.out]
          · have te2 : decide (2000 < x) = false := decide_eq_false e2
            have hsx : s + x ≤ 4000 ∧ 0 ≤ s + x := by omega
            have hgd : ¬ (l.getD i 0 < 1 ∨ 2000 < l.getD i 0) := by rw [HX.out]; omega
            by_cases h0 : i = 0
            · have HNp : Hid (¬ (0 < i ∧ PT.prv l i < l.getD i 0)) := by show ¬ _; omega
              have t0 : decide (0 < (i : Int)) = false := decide_eq_false (by omega)
              have t0n : decide (0 < i) = false := decide_eq_false (by omega)
              clear h0
              by_cases e4 : 2000 < s + x
              · have te4 : decide (2000 < s + x) = true := decide_eq_true e4
                have HPf : Hid (PT.pf l = (9, (i : Int))) := by show _ = _; rw [HPe.out]; exact HAt.out.f9 hil hgd HNp.out (by rw [HX.out, ← HSs.out]; exact e4)
                clear e4 hgd
                go_wp2
                refine bodyPost_ret (v := .agg #[.int .i64 9, .int .i64 (i : Int)]) (by simp [results, Tryd.results14, go_sem]) rfl ⟨?_, below_one w _⟩
                unfold fagg
                rw [HPf.out]
              · have te4 : decide (2000 < s + x) = false := decide_eq_false e4
                have HSt : Hid (PT.At l (i + 1) ∧ s + x = (l.take (i + 1)).sum) := ⟨HAt.out.step hil (by rw [HX.out]; omega) (by rw [HX.out]; omega) HNp.out (by rw [HX.out, ← HSs.out]; omega), by rw [PT.sum_s hil, HX.out, HSs.out]⟩
                clear e4 hgd
                go_wp2
                go_round
                case rel => exact ⟨i + 1, s + x, by go_num, by go_num, by omega, HSt.out.2, HSt.out.1⟩
                case measure => simp [intOf]; omega
            · obtain ⟨p, hp⟩ : ∃ p, i = p + 1 := ⟨i - 1, by omega⟩
              have t0 : decide (0 < (i : Int)) = true := decide_eq_true (by omega)
              have t0n : decide (0 < i) = true := decide_eq_true (by omega)
              have hpl : p < l.length := by omega
              have c1 := HC.out p hpl
              have hip : (i : Int) - 1 = (p : Int) := by omega
              obtain ⟨y, hy⟩ : ∃ y, l.getD p 0 = y := ⟨_, rfl⟩
              have HY : Hid (PT.prv l i = y) := by show _ = _; rw [hp, PT.prv_s]; exact hy
              rw [hy] at c1
              have x2 : (p : Int) < (N : Int) := by omega
              have hwp : IntKind.i64.wrap (p : Int) = (p : Int) := by rw [IntKind.wrap_i64]; omega
              have hp0 : (0 : Int) ≤ (p : Int) := by omega
              have HI0 : Hid (0 < i) := by show _ < _; omega
              clear hy hp h0
              by_cases e3 : y < x
              · have te3 : decide (y < x) = true := decide_eq_true e3
                have HPf : Hid (PT.pf l = (6, (i : Int))) := by show _ = _; rw [HPe.out]; exact HAt.out.f6 hil hgd ⟨HI0.out, by rw [HX.out, HY.out]; exact e3⟩
                clear e3 hgd
                go_wp2
                refine bodyPost_ret (v := .agg #[.int .i64 6, .int .i64 (i : Int)]) (by simp [results, Tryd.results14, go_sem]) rfl ⟨?_, below_one w _⟩
                unfold fagg
                rw [HPf.out]
              · have te3 : decide (y < x) = false := decide_eq_false e3
                have HNp : Hid (¬ (0 < i ∧ PT.prv l i < l.getD i 0)) := by show ¬ _; rw [HX.out, HY.out]; exact fun h => e3 h.2
                clear e3
                by_cases e4 : 2000 < s + x
                · have te4 : decide (2000 < s + x) = true := decide_eq_true e4
                  have HPf : Hid (PT.pf l = (9, (i : Int))) := by show _ = _; rw [HPe.out]; exact HAt.out.f9 hil hgd HNp.out (by rw [HX.out, ← HSs.out]; exact e4)
                  clear e4 hgd
                  go_wp2
                  refine bodyPost_ret (v := .agg #[.int .i64 9, .int .i64 (i : Int)]) (by simp [results, Tryd.results14, go_sem]) rfl ⟨?_, below_one w _⟩
                  unfold fagg
                  rw [HPf.out]
                · have te4 : decide (2000 < s + x) = false := decide_eq_false e4
                  have HSt : Hid (PT.At l (i + 1) ∧ s + x = (l.take (i + 1)).sum) := ⟨HAt.out.step hil (by rw [HX.out]; omega) (by rw [HX.out]; omega) HNp.out (by rw [HX.out, ← HSs.out]; omega), by rw [PT.sum_s hil, HX.out, HSs.out]⟩
                  clear e4 hgd
                  go_wp2
                  go_round
                  case rel => exact ⟨i + 1, s + x, by go_num, by go_num, by omega, HSt.out.2, HSt.out.1⟩
                  case measure => simp [intOf]; omega
      · have ti : decide ((i : Int) < (N : Int)) = false := decide_eq_false (by omega)
        have HPf : Hid (PT.pf l = (0, 0)) := by
          show _ = _
          rw [HPe.out]
          have := HAt.out
          rw [show i = l.length by have := HN.out; omega] at this
          exact this.fin
        go_wp2
        refine bodyPost_ret (v := .agg #[.int .i64 0, .int .i64 0]) (by simp [results, Tryd.results14, go_sem]) rfl ⟨?_, below_one w _⟩
        unfold fagg
        rw [HPf.out]

end Go.Proofs.YtmifenflbaohnaaDoor
end

section
/- The program: partition.turned, Turned; what is asked of Check and Turned. -/
set_option linter.unusedSimpArgs false
set_option linter.unusedVariables false
set_option maxRecDepth 100000
namespace Go.Proofs.YtmifenflbaohnaaDoor
open Go.RowKit

theorem icn_fit {k : Nat} {B B' : Nat → Int} (h : ∀ j, j < k → B j = B' j) : icn k B = icn k B' := by
  unfold icn
  exact List.map_congr_left fun j hj => by rw [h j (List.mem_range.1 hj)]
/-- A slice of numbers whose array is new since B. -/
structure Iu (B : Nat) (w : World) (s : Value) (xs : List Int) : Prop where
  shape : ∃ (aa : Option Addr) (g o cap : Nat), s = .slice aa xs.length cap ∧ (0 < xs.length → aa = some ⟨g, o, none⟩) ∧ (∀ i, i < xs.length → w.cell? ⟨g, o + i, none⟩ = some (.int .i64 (xs.getD i 0))) ∧ (0 < xs.length → g < w.heap.size ∧ B ≤ g)
theorem Iu.is {B : Nat} {w : World} {s : Value} {xs : List Int} (h : Iu B w s xs) : IS w s xs := by
  obtain ⟨aa, g, o, cap, h1, h2, h3, h4⟩ := h.shape
  exact ⟨aa, g, o, cap, h1, h2, h3, fun h => (h4 h).1⟩
theorem Iu.set {B b : Nat} {w : World} {s : Value} {xs : List Int} (h : Iu B w s xs) (hb : b < B) (k : Nat) (v : Value) : Iu B (w.setCell ⟨b, k, none⟩ v) s xs := by
  obtain ⟨aa, g, o, cap, h1, h2, h3, h4⟩ := h.shape
  refine ⟨aa, g, o, cap, h1, h2, fun i hi => ?_, fun h => ⟨by simpa using (h4 h).1, (h4 h).2⟩⟩
  have hg : g ≠ b := by have := (h4 (by omega)).2; omega
  exact (World.cell?_of_block (Below.heap_setCell _ ⟨b, k, none⟩ _ g hg)).trans (h3 i hi)
theorem Iu.below {B : Nat} {w w' : World} {s : Value} {xs : List Int} (h : Iu B w s xs) (k : Below w.heap.size w w') : Iu B w' s xs := by
  obtain ⟨aa, g, o, cap, h1, h2, h3, h4⟩ := h.shape
  exact ⟨aa, g, o, cap, h1, h2, fun i hi => (k.cell (p := ⟨g, o + i, none⟩) (h4 (by omega)).1).trans (h3 i hi), fun h => ⟨Nat.lt_of_lt_of_le (h4 h).1 k.size, (h4 h).2⟩⟩
theorem Iu.mono {B B' : Nat} {w : World} {s : Value} {xs : List Int} (h : Iu B w s xs) (hB : B' ≤ B) : Iu B' w s xs := by
  obtain ⟨aa, g, o, cap, h1, h2, h3, h4⟩ := h.shape
  exact ⟨aa, g, o, cap, h1, h2, h3, fun h => ⟨(h4 h).1, Nat.le_trans hB (h4 h).2⟩⟩
theorem Iu.nil (B : Nat) (w : World) : Iu B w (.slice none 0 0) [] := ⟨none, 0, 0, 0, rfl, fun h => by simp at h, fun i hi => by simp at hi, fun h => by simp at h⟩
theorem iu_of_icn {w : World} {b k : Nat} {B : Nat → Int} {l : List Int} (h : Cl b (icn k B) 3 w) (hl : l.length = k) (he : ∀ i, i < k → l.getD i 0 = B i) : Iu b w (.slice (some ⟨b, 0, none⟩) k k) l := by
  refine ⟨some ⟨b, 0, none⟩, b, 0, k, by rw [hl], fun _ => rfl, fun i hi => ?_, fun _ => ⟨h.lt, Nat.le_refl _⟩⟩
  rw [Nat.zero_add, h.cell i, icn_get B (by omega), he i (by omega)]
/-- The row while the i-th entry is counted: up to m. -/
def trB (l : List Int) (i m : Nat) (j : Nat) : Int := (PT.tge (l.take i) ((j + 1 : Nat) : Int) : Int) + if j < m then 1 else 0
theorem trB_zero (l : List Int) (i j : Nat) : trB l i 0 j = (PT.tge (l.take i) ((j + 1 : Nat) : Int) : Int) := by unfold trB; rw [if_neg (by omega)]; omega
theorem trB_step (l : List Int) (i m : Nat) (j : Nat) : trB l i (m + 1) j = if j = m then trB l i m m + 1 else trB l i m j := by
  unfold trB
  by_cases h : j = m
  · subst h; rw [if_pos (by omega), if_pos rfl, if_neg (by omega)]; omega
  · rw [if_neg h]
    by_cases h2 : j < m
    · rw [if_pos h2, if_pos (by omega)]
    · rw [if_neg h2, if_neg (by omega)]
theorem trB_next {l : List Int} {i x : Nat} (h : i < l.length) (hx : l.getD i 0 = (x : Int)) (j : Nat) : trB l i x j = trB l (i + 1) 0 j := by
  rw [trB_zero, PT.tge_take h, hx]
  unfold trB
  by_cases h2 : j < x
  · rw [if_pos h2, if_pos (by omega)]; omega
  · rw [if_neg h2, if_neg (by omega)]; omega

set_option maxRecDepth 100000 in
set_option maxHeartbeats 1000000 in
theorem turned_any (v : Value) (l : List Int) (w : World) (h : IS w v l) (hv : PT.Vp l) :
    Calls Tryd.prog 30 #[v] w fun e w' => ∃ v', e = .returned v' ∧ Iu w.heap.size w' v' (PT.trn l) ∧ Below w.heap.size w w' := by
  obtain ⟨i0, hi, hz0, hz1, hz2⟩ := info_parts Tryd.infoIntT
  obtain ⟨aa, g, o, cap, rfl, ha, hc, hg⟩ := h.shape
  have HC : Hid (∀ i, i < l.length → w.cell? ⟨g, o + i, none⟩ = some (.int .i64 (l.getD i 0))) := hc
  have HV : Hid (PT.Vp l) := hv
  have hl0 : l.length ≤ 1000 := hv.len
  obtain ⟨N, hN⟩ : ∃ N, N = l.length := ⟨_, rfl⟩
  have HN : Hid (N = l.length) := hN
  rw [← hN] at hl0
  rw [← hN]
  by_cases h0 : N = 0
  · have HE : Hid (PT.trn l = []) := by
      have : l = [] := List.eq_nil_of_length_eq_zero (by omega)
      show _ = _
      rw [this]; rfl
    subst h0
    clear ha hc hN hv hg h
    go_enter Tryd.func30, Tryd.ntmps30
    go_wp2
    go_ret
    refine ⟨_, rfl, by rw [HE.out]; exact Iu.nil _ w, Below.refl _ _⟩
  · obtain rfl := ha (by omega)
    have hgl : g < w.heap.size := hg (by omega)
    have c0 := hc 0 (by omega)
    obtain ⟨K, hK⟩ : ∃ K, K = PT.mx l := ⟨_, rfl⟩
    have hK0 : l.getD 0 0 = (K : Int) := by rw [hK]; unfold PT.mx; have := hv.rng 0 (by omega); omega
    have hK2 : K ≤ 2000 := by rw [hK]; exact PT.mx_le hv
    have HK : Hid (K = PT.mx l) := hK
    rw [hK0] at c0
    have t0 : ((N : Int) == 0) = false := beq_eq_false_iff_ne.2 (by omega)
    have HXs : Hid (∀ i, i < N → ∃ x : Nat, l.getD i 0 = (x : Int) ∧ x ≤ K) := fun i hi => by
      have := hv.rng i (by omega)
      have h1 := PT.dn_le hv 0 i (by omega)
      rw [Nat.zero_add, hK0] at h1
      exact ⟨(l.getD i 0).toNat, by omega, by omega⟩
    clear hK0 ha hc hN hv hg h hK
    simp only [Nat.add_zero] at c0
    go_enter Tryd.func30, Tryd.ntmps30
    go_wp2_with (at_make; refine wpList_make_full _ rfl _ _ 36 rfl w.heap.size 3 i0 (.int .i64 0) 1 Tryd.underlying36 hi hz0 hz1 .i64 .i64 _ _ K rfl rfl (by omega) (by omega) (by rw [hz2]; omega) (by unfold maxLen; omega) (Nat.le_refl _) ?_)
    intro w1 hown hgrow
    have hcl := cl_of_mk hown
    rw [← icn_zero] at hcl
    have HW1 : Hid (Cl w.heap.size (icn K (trB l 0 0)) 3 w1 ∧ Below w.heap.size w w1) := ⟨by
      rw [icn_fit (B' := fun _ => 0) (fun j _ => by rw [trB_zero]; simp [PT.tge])]; exact hcl, (Below.refl _ _).grown hgrow (Nat.le_refl _) (by simp)⟩
    clear hown hgrow hcl hi hz0 hz1 hz2 c0
    go_wp2
    go_loopw [16] (fun iv wx => ∃ i : Nat, iv = .int .i64 (i : Int) ∧ Hid (i ≤ N ∧ Cl w.heap.size (icn K (trB l i 0)) 3 wx ∧ Below w.heap.size w wx)) (fun iv _ => N - (intOf iv).toNat)
    case atStart => exact ⟨0, rfl, by omega, HW1.out⟩
    case round =>
      clear HW1
      obtain ⟨i, rfl, HR⟩ := hrel
      obtain ⟨hiN, hcl, hbe⟩ := HR.out
      have HW : Hid (Cl w.heap.size (icn K (trB l i 0)) 3 wr ∧ Below w.heap.size w wr) := ⟨hcl, hbe⟩
      clear HR hcl hbe
      by_cases hlt : i < N
      · have ti : decide ((i : Int) < (N : Int)) = true := decide_eq_true (by omega)
        obtain ⟨x, hx, hxK⟩ := HXs.out i hlt
        have c0 : wr.cell? ⟨g, o + i, none⟩ = some (.int .i64 (x : Int)) := by
          rw [HW.out.2.cell (p := ⟨g, o + i, none⟩) hgl, HC.out i (by have := HN.out; omega), hx]
        have HX : Hid (l.getD i 0 = (x : Int)) := hx
        obtain ⟨wq, hwq⟩ : ∃ wq, wq = wr := ⟨_, rfl⟩
        rw [← hwq] at HW c0
        rw [← hwq]
        clear hx hwq
        go_wp2
        go_loopw [21] (fun mv wx => ∃ m : Nat, mv = .int .i64 (m : Int) ∧ Hid (m ≤ x ∧ Cl w.heap.size (icn K (trB l i m)) 3 wx ∧ Below w.heap.size w wx)) (fun mv _ => x - (intOf mv).toNat)
        case atStart => exact ⟨0, rfl, by omega, HW.out⟩
        case round =>
          clear HW c0
          obtain ⟨m, rfl, HR⟩ := hrel
          obtain ⟨hmx, hcl, hbe⟩ := HR.out
          have HW : Hid (Cl w.heap.size (icn K (trB l i m)) 3 wr ∧ Below w.heap.size w wr) := ⟨hcl, hbe⟩
          clear HR hcl hbe
          by_cases hm : m < x
          · have tm : decide ((m : Int) < (x : Int)) = true := decide_eq_true (by omega)
            obtain ⟨y, hy⟩ : ∃ y, trB l i m m = y := ⟨_, rfl⟩
            have c1 : wr.cell? ⟨w.heap.size, m, none⟩ = some (.int .i64 y) := by rw [HW.out.1.cell m, ← hy]; exact icn_get _ (by omega)
            have f1 := HW.out.1.frozen m
            have hyb : 0 ≤ y ∧ y ≤ 1000 := by
              rw [← hy]; unfold trB; rw [if_neg (by omega)]
              have := PT.tge_le l ((m + 1 : Nat) : Int) i
              omega
            have HNw : Hid (Cl w.heap.size (icn K (trB l i (m + 1))) 3 (wr.setCell ⟨w.heap.size, m, none⟩ (.int .i64 (y + 1))) ∧ Below w.heap.size w (wr.setCell ⟨w.heap.size, m, none⟩ (.int .i64 (y + 1)))) := ⟨by
              rw [icn_fit (B' := fun j => if j = m then y + 1 else trB l i m j) (fun j _ => by rw [trB_step, hy]), ← icn_set]
              exact HW.out.1.set m _, HW.out.2.setCell (by simp) _⟩
            clear hy
            go_wp2
            go_roundw
            case rel => exact ⟨m + 1, by go_num, by omega, HNw.out⟩
            case measure => simp [intOf]; omega
          · have tm : decide ((m : Int) < (x : Int)) = false := decide_eq_false (by omega)
            obtain rfl : m = x := by omega
            have HNx : Hid (Cl w.heap.size (icn K (trB l (i + 1) 0)) 3 wr ∧ Below w.heap.size w wr) := ⟨by
              rw [← icn_fit (fun j _ => trB_next (by have := HN.out; omega) HX.out j)]; exact HW.out.1, HW.out.2⟩
            go_wp2
            go_roundw
            case rel => exact ⟨i + 1, by go_num, by omega, HNx.out⟩
            case measure => simp [intOf]; omega
      · have ti : decide ((i : Int) < (N : Int)) = false := decide_eq_false (by omega)
        have HF : Hid (Iu w.heap.size wr (.slice (some ⟨w.heap.size, 0, none⟩) K K) (PT.trn l) ∧ Below w.heap.size w wr) := by
          refine ⟨iu_of_icn HW.out.1 (by rw [PT.trn_len, HK.out]) (fun j hj => ?_), HW.out.2⟩
          unfold PT.trn
          rw [PT.tl_get (by rw [← HK.out]; exact hj), trB_zero, List.take_of_length_le (by have := HN.out; omega)]
        go_wp2
        go_ret
        exact ⟨_, rfl, HF.out⟩

set_option maxHeartbeats 1000000 in
theorem pTurned_bad (v : Value) (l : List Int) (w : World) (h : IS w v l) (hI : I64 l) (hb : (PT.pf l).1 ≠ 0) :
    Calls Tryd.prog 15 #[v] w fun e w' => e = .returned (.tuple #[.slice none 0 0, fagg l]) ∧ Below w.heap.size w w' := by
  have HB : Hid (∀ W, Below w.heap.size w W → Calls Tryd.prog 14 #[v] W fun e w' => e = .returned (fagg l) ∧ Below W.heap.size W w') := fun W k => pCheck_any v l W (h.belowP k) hI
  unfold fagg at HB ⊢
  obtain ⟨c, hc⟩ : ∃ c, c = (PT.pf l).1 := ⟨_, rfl⟩
  obtain ⟨a, ha⟩ : ∃ c, c = (PT.pf l).2 := ⟨_, rfl⟩
  rw [← hc] at hb HB
  rw [← ha] at HB
  rw [← hc, ← ha]
  have t0 : (c == 0) = false := beq_eq_false_iff_ne.2 hb
  have t1 : (c != 0) = true := by simp [bne, t0]
  clear h hI hc ha hb
  go_enter Tryd.func15, Tryd.ntmps15
  go_wp2_with fail
  refine (HB.out _ (Below.alloc (Below.refl _ _) (Nat.le_refl _) _)).mono ?_
  rintro e w1 ⟨rfl, hb⟩
  have hz : w.heap.size < w1.heap.size := by have := hb.size; simp at this; omega
  have q0 : w1.cell? ⟨w.heap.size, 0, none⟩ = some (.int .i64 0) := cell_later hb (by simp)
  have q1 : w1.cell? ⟨w.heap.size, 1, none⟩ = some (.int .i64 0) := cell_later hb (by simp)
  have q2 : w1.frozen? ⟨w.heap.size, 0, none⟩ = false := (hb.frozen (p := ⟨w.heap.size, 0, none⟩) (by simp)).trans (by simp)
  have q3 : w1.frozen? ⟨w.heap.size, 1, none⟩ = false := (hb.frozen (p := ⟨w.heap.size, 1, none⟩) (by simp)).trans (by simp)
  clear HB
  go_wp2
  go_region
  all_goals
    go_wp2
    refine bodyPost_ret (v := .tuple #[.slice none 0 0, .agg #[.int .i64 c, .int .i64 a]]) (by simp [results, Tryd.results15, go_sem, q0, q1, hz]) rfl ⟨rfl, ?_⟩
    refine Below.drew (Below.alloc (Below.setCell (Below.setCell (Below.trans (Below.alloc (Below.refl _ _) ?_ _) (hb.mono ?_)) ?_ _) ?_ _) ?_ _) <;> first | omega | (simp; done) | (simp; omega)

set_option maxHeartbeats 1000000 in
theorem pTurned_ok (v : Value) (l : List Int) (w : World) (h : IS w v l) (hv : PT.Vp l) :
    Calls Tryd.prog 15 #[v] w fun e w' => ∃ v', e = .returned (.tuple #[v', .agg #[.int .i64 0, .int .i64 0]]) ∧ IS w' v' (PT.trn l) ∧ Below w.heap.size w w' := by
  have hI : I64 l := ⟨by have := hv.len; omega, fun x hx => by
    obtain ⟨j, hj, e⟩ := List.getElem_of_mem hx
    have := hv.rng j hj
    rw [List.getD_eq_getElem?_getD, List.getElem?_eq_getElem hj, Option.getD_some, e] at this
    omega⟩
  have HB : Hid (∀ W, Below w.heap.size w W → Calls Tryd.prog 14 #[v] W fun e w' => e = .returned (.agg #[.int .i64 0, .int .i64 0]) ∧ Below W.heap.size W w') := fun W k => by
    have := pCheck_any v l W (h.belowP k) hI
    unfold fagg at this
    rw [PT.vp_pf hv] at this
    exact this
  have HT : Hid (∀ W, Below w.heap.size w W → Calls Tryd.prog 30 #[v] W fun e w' => ∃ v', e = .returned v' ∧ Iu W.heap.size w' v' (PT.trn l) ∧ Below W.heap.size W w') := fun W k => turned_any v l W (h.belowP k) hv
  clear h hI hv
  go_enter Tryd.func15, Tryd.ntmps15
  go_wp2_with fail
  have K0 : Below w.heap.size w (w.alloc (.cells #[.int .i64 0, .int .i64 0] 23)) := Below.alloc (Below.refl _ _) (Nat.le_refl _) _
  refine (HB.out _ K0).mono ?_
  rintro e w1 ⟨rfl, k1⟩
  have K1 : Below w.heap.size w w1 := K0.trans (k1.mono (by simp))
  have S1 : Sv w.heap.size 0 0 w1 := (Sv.new 0 0 w).below k1
  have HS1 : Hid (Sv w.heap.size 0 0 w1 ∧ Below w.heap.size w w1) := ⟨S1, K1⟩
  clear S1 K0 K1 k1 HB
  go_wp2_with fail
  refine (HT.out _ (Below.alloc HS1.out.2 HS1.out.2.size _)).mono ?_
  rintro e w2 ⟨vt, rfl, ht, k2⟩
  have S2 : Sv w.heap.size 0 0 w2 := (HS1.out.1.alloc _ _).below k2
  have HK2 : Hid (Below w.heap.size w w2) := (Below.alloc HS1.out.2 HS1.out.2.size _).trans (k2.mono (by simp; have := HS1.out.2.size; omega))
  have HT2 : Hid (Iu (w.heap.size + 1) w2 vt (PT.trn l)) := ht.mono (by simp; have := HS1.out.1.lt; omega)
  obtain ⟨q0, q1, q2, q3, hz⟩ := S2
  clear k2 HT ht
  go_wp2
  refine bodyPost_ret (v := .tuple #[vt, .agg #[.int .i64 0, .int .i64 0]]) (by simp [results, Tryd.results15, go_sem, q0, q1, hz]) rfl ⟨vt, rfl, ?_, ?_⟩
  · exact ((HT2.out.set (Nat.lt_succ_self _) _ _).set (Nat.lt_succ_self _) _ _).is
  · exact Below.setCell (Below.setCell HK2.out (Nat.le_refl _) _) (Nat.le_refl _) _

theorem turns_is : TurnsIs := ⟨pCheck_any, pTurned_bad, pTurned_ok⟩

end Go.Proofs.YtmifenflbaohnaaDoor
end
