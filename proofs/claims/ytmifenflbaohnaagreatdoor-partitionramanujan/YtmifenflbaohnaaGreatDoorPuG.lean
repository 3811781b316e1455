/- The program: isSameAsAhead, isEven, checkKind, Odd, Apart: what is asked of them. -/
import Derived.Test.YtmifenflbaohnaaGreatDoorPuF
import Derived.Test.YtmifenflbaohnaaGreatDoorPtG
import Derived.BigQuiet
import Derived.BigRegion
set_option linter.unusedSimpArgs false
set_option linter.unusedVariables false
set_option maxRecDepth 100000
namespace Go.Proofs.YtmifenflbaohnaaGreatDoor
open Go.RowKit

set_option maxHeartbeats 1000000 in
theorem same_any (v : Value) (l : List Int) (i : Nat) (w : World) (h : IS w v l) (hi : i < l.length) (hl : l.length ≤ 1000) :
    Calls Tryz.prog 25 #[v, .int .i64 (i : Int)] w fun e w' => e = .returned (.bool (PT.odP l i)) ∧ Below w.heap.size w w' := by
  obtain ⟨aa, g, o, cap, rfl, ha, hc, hg⟩ := h.shape
  obtain rfl := ha (by omega)
  have c0 := hc i hi
  obtain ⟨x, hx⟩ : ∃ x, l.getD i 0 = x := ⟨_, rfl⟩
  obtain ⟨N, hN⟩ : ∃ N, N = l.length := ⟨_, rfl⟩
  rw [hx] at c0
  have x1 : (i : Int) < (N : Int) := by omega
  by_cases h0 : i = 0
  · have HE : Hid (PT.odP l i = false) := by show _ = _; unfold PT.odP; rw [h0]; rfl
    have t0 : decide (0 < (i : Int)) = false := decide_eq_false (by omega)
    have t0n : decide (0 < i) = false := decide_eq_false (by omega)
    rw [HE.out]
    rw [← hN]
    clear hc hg ha h h0 hN hi hl hx
    go_enter Tryz.func25, Tryz.ntmps25
    go_wp2_with fail
    go_quiet (fail)
    go_wp2
    go_ret
    exact ⟨rfl, below_drewN' (Below.refl _ _)⟩
  · obtain ⟨p, hp⟩ : ∃ p, i = p + 1 := ⟨i - 1, by omega⟩
    have c1 := hc p (by omega)
    obtain ⟨y, hy⟩ : ∃ y, l.getD p 0 = y := ⟨_, rfl⟩
    rw [hy] at c1
    have HE : Hid (PT.odP l i = (x == y)) := by
      show _ = _
      unfold PT.odP
      rw [hp, PT.prv_s, hy, ← hp, hx, decide_eq_true (by omega : 0 < i), Bool.true_and]
      by_cases e : x = y
      · subst e; simp
      · rw [decide_eq_false (fun q => e q.symm), beq_eq_false_iff_ne.2 e]
    have t0 : decide (0 < (i : Int)) = true := decide_eq_true (by omega)
    have t0n : decide (0 < i) = true := decide_eq_true (by omega)
    have hip : (i : Int) - 1 = (p : Int) := by omega
    have x2 : (p : Int) < (N : Int) := by omega
    have hwp : IntKind.i64.wrap (p : Int) = (p : Int) := by rw [IntKind.wrap_i64]; omega
    have hp0 : (0 : Int) ≤ (p : Int) := by omega
    rw [HE.out, ← hN]
    clear hc hg ha h h0 hN hi hl hx hy hp
    go_enter Tryz.func25, Tryz.ntmps25
    go_wp2_with fail
    go_quiet (fail)
    go_wp2
    go_ret
    exact ⟨rfl, below_drewN' (Below.refl _ _)⟩
theorem vp_i64 {l : List Int} (hv : PT.Vp l) : I64 l := ⟨by have := hv.len; omega, fun x hx => by
  obtain ⟨j, hj, e⟩ := List.getElem_of_mem hx
  have := hv.rng j hj
  rw [List.getD_eq_getElem?_getD, List.getElem?_eq_getElem hj, Option.getD_some, e] at this
  omega⟩
set_option maxRecDepth 100000 in
set_option maxHeartbeats 2000000 in
theorem kind_odd (v : Value) (l : List Int) (w : World) (h : IS w v l) (hI : I64 l) :
    Calls Tryz.prog 24 #[v, .func (.func 25) #[] #[]] w fun e w' => e = .returned (.agg #[.int .i64 (PT.odf l).1, .int .i64 (PT.odf l).2]) ∧ Below w.heap.size w w' := by
  obtain ⟨t, ht⟩ : ∃ t, t = PT.odf l := ⟨_, rfl⟩
  rw [← ht]
  by_cases h0 : (PT.pf l).1 = 0
  · have hv := PT.pf_vp (PT.pf_zero h0)
    have hN1 : l.length ≤ 1000 := hv.len
    have HCk : Hid (∀ W, Below w.heap.size w W → Calls Tryz.prog 46 #[v] W fun e w' => e = .returned (.agg #[.int .i64 0, .int .i64 0]) ∧ Below W.heap.size W w') := fun W k => by
      have := pCheck_any v l W (h.belowP k) hI
      unfold fagg at this
      rw [PT.pf_zero h0] at this
      exact this
    have HFn : Hid (∀ W i, Below w.heap.size w W → i < l.length → Calls Tryz.prog 25 #[v, .int .i64 (i : Int)] W fun e w' => e = .returned (.bool (PT.odP l i)) ∧ Below W.heap.size W w') := fun W i k hi => same_any v l i W (h.belowP k) hi hN1
    have HTt : Hid (t = PT.ff (PT.odP l) l.length 0) := by show _ = _; rw [ht]; unfold PT.odf; rw [if_pos h0]
    obtain ⟨aa, g, o, cap, rfl, ha, hc, hg⟩ := h.shape
    obtain ⟨N, hN⟩ : ∃ N, N = l.length := ⟨_, rfl⟩
    rw [← hN] at hN1 HFn HTt HCk
    rw [← hN]
    clear h hI h0 ha hc hg hN ht hv
    go_enter Tryz.func24, Tryz.ntmps24
    go_wp2_with fail
    have K0 : Below w.heap.size w (w.alloc (.cells #[.int .i64 0, .int .i64 0] 23)) := Below.alloc (Below.refl _ _) (Nat.le_refl _) _
    refine (HCk.out _ K0).mono ?_
    rintro e w1 ⟨rfl, k1⟩
    have K1 : Below w.heap.size w w1 := K0.trans (k1.mono (by simp))
    have S1 : Sv w.heap.size 0 0 w1 := (Sv.new 0 0 w).below k1
    have HS1 : Hid (Sv w.heap.size 0 0 (w1.alloc (.cells #[.int .i64 0, .int .i64 0] 23)) ∧ Below w.heap.size w (w1.alloc (.cells #[.int .i64 0, .int .i64 0] 23))) := ⟨S1.alloc _ _, Below.alloc K1 K1.size _⟩
    clear S1 K0 K1 k1 HCk
    go_wp2
    go_loopg [15] N (fun gk iv wx => ∃ i : Nat, iv = .int .i64 (i : Int) ∧ Hid (gk = N - i ∧ i ≤ N ∧ t = PT.ff (PT.odP l) (N - i) i ∧ Sv w.heap.size 0 0 wx ∧ Below w.heap.size w wx))
    case atStart => exact ⟨0, rfl, rfl, by omega, HTt.out, HS1.out⟩
    case round =>
      clear HS1
      obtain ⟨i, rfl, HR⟩ := hrel
      obtain ⟨h1, h2, h3, h4, h5⟩ := HR.out
      have HS : Hid (Sv w.heap.size 0 0 wr ∧ Below w.heap.size w wr) := ⟨h4, h5⟩
      have HK : Hid (gk = N - i ∧ t = PT.ff (PT.odP l) (N - i) i) := ⟨h1, h3⟩
      clear HR h1 h3 h4 h5
      by_cases hi : i < N
      · have ti : decide ((i : Int) < (N : Int)) = true := decide_eq_true (by omega)
        have HF1 := HFn.out wr i HS.out.2 hi
        obtain ⟨bv, hbv⟩ : ∃ b, PT.odP l i = b := ⟨_, rfl⟩
        rw [hbv] at HF1
        have HF2 : Hid (Calls Tryz.prog 25 #[.slice aa N cap, .int .i64 (i : Int)] wr fun e w' => e = .returned (.bool bv) ∧ Below wr.heap.size wr w') := HF1
        have HBv : Hid (PT.odP l i = bv) := hbv
        clear HF1 hbv
        go_wp2_with fail
        refine HF2.out.mono ?_
        rintro e w2 ⟨rfl, k2⟩
        have HS2 : Hid (Sv w.heap.size 0 0 w2 ∧ Below w.heap.size w w2) := ⟨HS.out.1.below k2, HS.out.2.trans (k2.mono HS.out.2.size)⟩
        clear k2 HF2 HS
        cases bv
        · have HN : Hid (t = PT.ff (PT.odP l) (N - (i + 1)) (i + 1)) := by show _ = _; rw [HK.out.2, PT.ff_no hi HBv.out]
          go_wp2
          go_roundg (N - (i + 1))
          case rel => exact ⟨i + 1, by go_num, rfl, by omega, HN.out, HS2.out⟩
          case measure => have := HK.out.1; omega
        · have HE : Hid (t = (7, (i : Int))) := by show _ = _; rw [HK.out.2, PT.ff_yes hi HBv.out]
          obtain ⟨q0, q1, q2, q3, hz⟩ := HS2.out.1
          go_wp2
          refine bodyPost_ret (v := .agg #[.int .i64 7, .int .i64 (i : Int)]) (by simp [results, Tryz.results24, go_sem, q0, q1, hz]) rfl ⟨by rw [HE.out], ?_⟩
          exact Below.setCell (Below.setCell HS2.out.2 (Nat.le_refl _) _) (Nat.le_refl _) _
      · have ti : decide ((i : Int) < (N : Int)) = false := decide_eq_false (by omega)
        have HE : Hid (t = (0, 0)) := by show _ = _; rw [HK.out.2, show N - i = 0 by omega]; rfl
        obtain ⟨q0, q1, q2, q3, hz⟩ := HS.out.1
        go_wp2
        refine bodyPost_ret (v := .agg #[.int .i64 0, .int .i64 0]) (by simp [results, Tryz.results24, go_sem, q0, q1, hz]) rfl ⟨by rw [HE.out], ?_⟩
        exact Below.setCell (Below.setCell HS.out.2 (Nat.le_refl _) _) (Nat.le_refl _) _
  · have HCk : Hid (∀ W, Below w.heap.size w W → Calls Tryz.prog 46 #[v] W fun e w' => e = .returned (fagg l) ∧ Below W.heap.size W w') := fun W k => pCheck_any v l W (h.belowP k) hI
    have htt : t = PT.pf l := by rw [ht]; unfold PT.odf; rw [if_neg h0]
    unfold fagg at HCk
    rw [← htt] at HCk h0
    obtain ⟨c, a⟩ := t
    simp only [] at h0 HCk ⊢
    have t0 : (c == 0) = false := beq_eq_false_iff_ne.2 h0
    clear h hI ht htt
    go_enter Tryz.func24, Tryz.ntmps24
    go_wp2_with fail
    have K0 : Below w.heap.size w (w.alloc (.cells #[.int .i64 0, .int .i64 0] 23)) := Below.alloc (Below.refl _ _) (Nat.le_refl _) _
    refine (HCk.out _ K0).mono ?_
    rintro e w1 ⟨rfl, k1⟩
    have K1 : Below w.heap.size w w1 := K0.trans (k1.mono (by simp))
    have S1 : Sv w.heap.size 0 0 w1 := (Sv.new 0 0 w).below k1
    obtain ⟨q0, q1, q2, q3, hz⟩ := S1
    have HK1 : Hid (Below w.heap.size w w1) := K1
    clear K0 K1 k1 HCk
    go_wp2
    refine bodyPost_ret (v := .agg #[.int .i64 c, .int .i64 a]) (by simp [results, Tryz.results24, go_sem, q0, q1, hz]) rfl ⟨rfl, ?_⟩
    exact Below.alloc (Below.setCell (Below.setCell HK1.out (Nat.le_refl _) _) (Nat.le_refl _) _) (by simp; exact HK1.out.size) _
theorem ff_zero {P : Nat → Bool} : ∀ n i, (PT.ff P n i).1 = 0 → PT.ff P n i = (0, 0) ∧ ∀ j, i ≤ j → j < i + n → P j = false
  | 0, i, _ => ⟨rfl, fun j h1 h2 => by omega⟩
  | n + 1, i, h => by
    rw [PT.ff] at h ⊢
    by_cases hp : P i = true
    · rw [if_pos hp] at h; simp at h
    · rw [if_neg hp] at h ⊢
      obtain ⟨a, b⟩ := ff_zero n (i + 1) h
      refine ⟨a, fun j h1 h2 => ?_⟩
      by_cases e : j = i
      · subst e; simpa using hp
      · exact b j (by omega) (by omega)
theorem wb_vp {l : List Int} (h : PT.Vp l) : Wb l := ⟨PT.mem_of_getD (P := fun x => 1 ≤ x) (fun j hj => (h.rng j hj).1), h.sum⟩
theorem odf_zero {l : List Int} (h : (PT.odf l).1 = 0) : PT.odf l = (0, 0) ∧ PT.Vp l := by
  by_cases h0 : (PT.pf l).1 = 0
  · unfold PT.odf at h ⊢
    rw [if_pos h0] at h ⊢
    exact ⟨(ff_zero _ _ h).1, PT.pf_vp (PT.pf_zero h0)⟩
  · unfold PT.odf at h
    rw [if_neg h0] at h
    exact absurd h h0
theorem apf_zero {l : List Int} (h : (PT.apf l).1 = 0) : PT.apf l = (0, 0) ∧ PT.Vp l ∧ ∀ j, j < l.length → l.getD j 0 % 2 = 1 := by
  by_cases h0 : (PT.pf l).1 = 0
  · unfold PT.apf at h ⊢
    rw [if_pos h0] at h ⊢
    obtain ⟨a, b⟩ := ff_zero _ _ h
    refine ⟨a, PT.pf_vp (PT.pf_zero h0), fun j hj => ?_⟩
    have := b j (Nat.zero_le _) (by omega)
    unfold PT.apP at this
    have := of_decide_eq_false this
    omega
  · unfold PT.apf at h
    rw [if_neg h0] at h
    exact absurd h h0
set_option maxHeartbeats 2000000 in
theorem Odd_any (v : Value) (l : List Int) (w : World) (h : IS w v l) (hI : I64 l) :
    Calls Tryz.prog 13 #[v] w fun e w' => ∃ v', e = .returned (.tuple #[v', .agg #[.int .i64 (PT.odf l).1, .int .i64 (PT.odf l).2]]) ∧ OutO w'.heap.size l v' (PT.odf l).1 w' ∧ Below w.heap.size w w' := by
  by_cases h0 : (PT.odf l).1 = 0
  · have hz := odf_zero h0
    have hv : PT.Vp l := hz.2
    have HB : Hid (∀ W, Below w.heap.size w W → Calls Tryz.prog 24 #[v, .func (.func 25) #[] #[]] W fun e w' => e = .returned (.agg #[.int .i64 0, .int .i64 0]) ∧ Below W.heap.size W w') := fun W k => by
      have := kind_odd v l W (h.belowP k) hI
      rw [hz.1] at this
      exact this
    have HT : Hid (∀ W, Below w.heap.size w W → Calls Tryz.prog 26 #[v] W fun e w' => ∃ v', e = .returned v' ∧ (∃ o : List Int, Iu W.heap.size w' v' o ∧ o.length ≤ 10000 ∧ PT.Gl l o) ∧ Below W.heap.size W w') := fun W k => by
      refine (odd_any v l W (h.belowP k) hv.len hv.rng (wb_vp hv)).mono ?_
      (rintro e w' ⟨v', s, rfl, h1, h2, h3, h4⟩; exact ⟨v', rfl, ⟨_, h1, by rw [List.length_reverse, List.length_mergeSort]; omega, PT.gl_odd hv.rng h2⟩, h4⟩)
    have hz0 : PT.odf l = (0, 0) := hz.1
    rw [hz0]
    clear h hI h0 hz hz0 hv
    go_enter Tryz.func13, Tryz.ntmps13
    go_wp2_with fail
    have K0 : Below w.heap.size w (w.alloc (.cells #[.int .i64 0, .int .i64 0] 23)) := Below.alloc (Below.refl _ _) (Nat.le_refl _) _
    refine (HB.out _ K0).mono ?_
    rintro e w1 ⟨rfl, k1⟩
    have K1 : Below w.heap.size w w1 := K0.trans (k1.mono (by simp))
    have S1 : Sv w.heap.size 0 0 w1 := (Sv.new 0 0 w).below k1
    have HS1 : Hid (Sv w.heap.size 0 0 w1 ∧ Below w.heap.size w w1) := ⟨S1, K1⟩
    clear S1 K0 K1 k1 HB
    go_wp2_with fail
    refine (HT.out _ (Below.alloc HS1.out.2 HS1.out.2.size _)).mono ?_
    rintro e w2 ⟨vt, rfl, ⟨o, ho1, ho2, ho3⟩, k2⟩
    have S2 : Sv w.heap.size 0 0 w2 := (HS1.out.1.alloc _ _).below k2
    have HK2 : Hid (Below w.heap.size w w2) := (Below.alloc HS1.out.2 HS1.out.2.size _).trans (k2.mono (by simp; have := HS1.out.2.size; omega))
    have HT2 : Hid (Iu (w.heap.size + 1) w2 vt o ∧ o.length ≤ 10000 ∧ PT.Gl l o) := ⟨ho1.mono (by simp; have := HS1.out.1.lt; omega), ho2, ho3⟩
    obtain ⟨q0, q1, q2, q3, hz⟩ := S2
    clear k2 HT ho1 ho2 ho3
    go_wp2
    refine bodyPost_ret (v := .tuple #[vt, .agg #[.int .i64 0, .int .i64 0]]) (by simp [results, Tryz.results13, go_sem, q0, q1, hz]) rfl ⟨vt, rfl, ?_, ?_⟩
    · exact .inr ⟨rfl, o, ((HT2.out.1.set (Nat.lt_succ_self _) _ _).set (Nat.lt_succ_self _) _ _).is.ib, HT2.out.2⟩
    · exact Below.setCell (Below.setCell HK2.out (Nat.le_refl _) _) (Nat.le_refl _) _
  · have HB : Hid (∀ W, Below w.heap.size w W → Calls Tryz.prog 24 #[v, .func (.func 25) #[] #[]] W fun e w' => e = .returned (.agg #[.int .i64 (PT.odf l).1, .int .i64 (PT.odf l).2]) ∧ Below W.heap.size W w') := fun W k => kind_odd v l W (h.belowP k) hI
    obtain ⟨t, ht⟩ : ∃ t, t = PT.odf l := ⟨_, rfl⟩
    rw [← ht] at h0 HB ⊢
    obtain ⟨c, a⟩ := t
    simp only [] at h0 HB ⊢
    have t0 : (c == 0) = false := beq_eq_false_iff_ne.2 h0
    have t1 : (c != 0) = true := by simp [bne, t0]
    have HE : Hid (∀ W, OutO w.heap.size l (.slice none 0 0) c W) := fun W => .inl ⟨h0, rfl⟩
    have HE2 : Hid (∀ B W, OutO B l (.slice none 0 0) c W) := fun B W => .inl ⟨h0, rfl⟩
    clear h hI ht h0
    go_enter Tryz.func13, Tryz.ntmps13
    go_wp2_with fail
    refine (HB.out _ (Below.alloc (Below.refl _ _) (Nat.le_refl _) _)).mono ?_
    rintro e w1 ⟨rfl, hb⟩
    have hz : w.heap.size < w1.heap.size := by have := hb.size; simp at this; omega
    have q0 : w1.cell? ⟨w.heap.size, 0, none⟩ = some (.int .i64 0) := cell_later hb (by simp)
    have q1 : w1.cell? ⟨w.heap.size, 1, none⟩ = some (.int .i64 0) := cell_later hb (by simp)
    have q2 : w1.frozen? ⟨w.heap.size, 0, none⟩ = false := (hb.frozen (p := ⟨w.heap.size, 0, none⟩) (by simp)).trans (by simp)
    have q3 : w1.frozen? ⟨w.heap.size, 1, none⟩ = false := (hb.frozen (p := ⟨w.heap.size, 1, none⟩) (by simp)).trans (by simp)
    clear HB
    go_wp2
    go_region
    all_goals
      go_wp2
      refine bodyPost_ret (v := .tuple #[.slice none 0 0, .agg #[.int .i64 c, .int .i64 a]]) (by simp [results, Tryz.results13, go_sem, q0, q1, hz]) rfl ⟨_, rfl, HE2.out _ _, ?_⟩
      refine Below.drew (Below.alloc (Below.setCell (Below.setCell (Below.trans (Below.alloc (Below.refl _ _) ?_ _) (hb.mono ?_)) ?_ _) ?_ _) ?_ _) <;> first | omega | (simp; done) | (simp; omega)
end Go.Proofs.YtmifenflbaohnaaGreatDoor
