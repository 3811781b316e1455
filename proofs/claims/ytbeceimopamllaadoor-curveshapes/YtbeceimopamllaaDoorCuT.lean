/- The law's offCurve. -/
import Derived.Test.YtbeceimopamllaaDoorCuS
set_option linter.unusedSimpArgs false
set_option linter.unusedVariables false
set_option maxRecDepth 100000
namespace Go.Proofs.YtbeceimopamllaaDoor
open Go.RowKit EC

/-- What offCurve holds in memory. -/
structure Fm (fb : Nat) (c d : Int) (w W : World) : Prop where
  o : Cl w.heap.size [.int .i64 0, .int .i64 0] 23 W
  f : Cl fb [.int .i64 c, .int .i64 d] 23 W
  ne : w.heap.size < fb
  k : Below w.heap.size w W
theorem Fm.below {fb : Nat} {c d : Int} {w W W' : World} (x : Fm fb c d w W) (n : Below W.heap.size W W') : Fm fb c d w W' :=
  ⟨x.o.below n, x.f.below n, x.ne, x.k.trans (n.mono (by have := x.o.lt; omega))⟩
theorem Fm.set {fb : Nat} {c d : Int} {w W : World} (x : Fm fb c d w W) (c' d' : Int) : Fm fb c' d' w ((W.setCell ⟨fb, 0, none⟩ (.int .i64 c')).setCell ⟨fb, 1, none⟩ (.int .i64 d')) := by
  have hn := x.ne
  exact ⟨(x.o.other (by show w.heap.size ≠ fb; omega) _).other (by show w.heap.size ≠ fb; omega) _, (x.f.set 0 _).set 1 _, hn, (x.k.setCell (by show w.heap.size ≤ fb; omega) _).setCell (by show w.heap.size ≤ fb; omega) _⟩

set_option maxHeartbeats 2000000 in
theorem offCurve_any (p a b c d : Int) (s : Value) (l : List Pn) (w : World) (h : Of p a b l c d) (hs : PS w s l) (hl : l.length ≤ 1000000) :
    Calls Tryd.prog 15 #[.int .i64 p, .int .i64 a, .int .i64 b, s] w fun e w' => e = .returned (.agg #[.int .i64 c, .int .i64 d]) ∧ Below w.heap.size w w' := by
  have HPS : Hid (PS w s l) := hs
  obtain ⟨aa, g, cap, rfl, hg, hcl⟩ := hs
  obtain ⟨L, hL⟩ : ∃ L, l.length = L := ⟨_, rfl⟩
  have HL : Hid (l.length = L) := hL
  have HG : Hid (0 < L → aa = some ⟨g, 0, none⟩) := fun h => (hg (by omega)).1
  rw [hL] at hl HPS ⊢
  clear hg hcl hL
  rcases h with ⟨h1, h2⟩ | ⟨P, rfl, hv, h⟩
  · have HCk : Hid (∀ w, Calls Tryd.prog 9 #[.int .i64 p, .int .i64 a, .int .i64 b] w fun e w' => e = .returned (.agg #[.int .i64 c, .int .i64 d]) ∧ Below w.heap.size w w') := fun w => refCurveFault_any p a b c d w h2
    have hcb : (c == 0) = false := beq_eq_false_iff_ne.2 h1
    have O0 : Cl w.heap.size [.int .i64 0, .int .i64 0] 23 (w.alloc (.cells #[.int .i64 0, .int .i64 0] 23)) := Cl.new _ _ w
    clear h1 h2
    go_enter Tryd.func15, Tryd.ntmps15
    go_wp2_with fail
    refine (HCk.out _).mono ?_
    rintro e w1 ⟨rfl, k1⟩
    have K1 : Below w.heap.size w w1 := (ala w _).trans (k1.mono (by simp))
    have HM0 : Hid (Fm w1.heap.size c d w (w1.alloc (.cells #[.int .i64 c, .int .i64 d] 23))) := ⟨(O0.below k1).alloc _, Cl.new [.int .i64 c, .int .i64 d] _ w1, (O0.below k1).lt, K1.alloc K1.size _⟩
    clear O0 k1 K1 HCk
    go_wp2
    go_loopw [10] (fun iv wx => iv = .int .i64 0 ∧ Hid (Fm w1.heap.size c d w wx)) (fun iv _ => 0)
    case atStart => exact ⟨rfl, HM0.out⟩
    case round =>
      obtain ⟨rfl, HM⟩ := hrel
      by_cases hz : L = 0
      · subst hz
        have o0 : wr.cell? ⟨w.heap.size, 0, none⟩ = some (.int .i64 0) := HM.out.o.cell 0
        have o1 : wr.cell? ⟨w.heap.size, 1, none⟩ = some (.int .i64 0) := HM.out.o.cell 1
        have o2 := HM.out.o.frozen 0
        have o3 := HM.out.o.frozen 1
        have f0 : wr.cell? ⟨w1.heap.size, 0, none⟩ = some (.int .i64 c) := HM.out.f.cell 0
        have f1 : wr.cell? ⟨w1.heap.size, 1, none⟩ = some (.int .i64 d) := HM.out.f.cell 1
        have n1 : ¬ w.heap.size = w1.heap.size := by have := HM.out.ne; omega
        have n2 : ¬ w1.heap.size = w.heap.size := by have := HM.out.ne; omega
        go_wp2
        refine bodyPost_ret (v := .agg #[.int .i64 c, .int .i64 d]) (by simp [results, Tryd.results15, go_sem, o0, o1]) rfl ⟨rfl, ?_⟩
        exact (HM.out.k.setCell (by simp) _).setCell (by simp) _
      · have t1 : decide (0 < L) = true := decide_eq_true (by omega)
        have o0 : wr.cell? ⟨w.heap.size, 0, none⟩ = some (.int .i64 0) := HM.out.o.cell 0
        have o1 : wr.cell? ⟨w.heap.size, 1, none⟩ = some (.int .i64 0) := HM.out.o.cell 1
        have o2 := HM.out.o.frozen 0
        have o3 := HM.out.o.frozen 1
        have f0 : wr.cell? ⟨w1.heap.size, 0, none⟩ = some (.int .i64 c) := HM.out.f.cell 0
        have f1 : wr.cell? ⟨w1.heap.size, 1, none⟩ = some (.int .i64 d) := HM.out.f.cell 1
        have n1 : ¬ w.heap.size = w1.heap.size := by have := HM.out.ne; omega
        have n2 : ¬ w1.heap.size = w.heap.size := by have := HM.out.ne; omega
        go_wp2
        refine bodyPost_ret (v := .agg #[.int .i64 c, .int .i64 d]) (by simp [results, Tryd.results15, go_sem, o0, o1]) rfl ⟨rfl, ?_⟩
        exact (HM.out.k.setCell (by simp) _).setCell (by simp) _
  · have HCk : Hid (∀ w, Calls Tryd.prog 9 #[.int .i64 P, .int .i64 a, .int .i64 b] w fun e w' => e = .returned (.agg #[.int .i64 0, .int .i64 0]) ∧ Below w.heap.size w w') := fun w => refCurveFault_any P a b 0 0 w (cf_of hv)
    have HC : Hid (Cv P a b ∧ rf P a b 0 l = (c, d)) := ⟨hv, h⟩
    have O0 : Cl w.heap.size [.int .i64 0, .int .i64 0] 23 (w.alloc (.cells #[.int .i64 0, .int .i64 0] 23)) := Cl.new _ _ w
    clear h hv
    go_enter Tryd.func15, Tryd.ntmps15
    go_wp2_with fail
    refine (HCk.out _).mono ?_
    rintro e w1 ⟨rfl, k1⟩
    have K1 : Below w.heap.size w w1 := (ala w _).trans (k1.mono (by simp))
    have HM0 : Hid (Fm w1.heap.size 0 0 w (w1.alloc (.cells #[.int .i64 0, .int .i64 0] 23))) := ⟨(O0.below k1).alloc _, Cl.new [.int .i64 0, .int .i64 0] _ w1, (O0.below k1).lt, K1.alloc K1.size _⟩
    clear O0 k1 K1 HCk
    go_wp2
    go_loopw [10] (fun iv wx => ∃ i : Nat, i ≤ L ∧ iv = .int .i64 i ∧ Hid ((c ≠ 0 ∧ Fm w1.heap.size c d w wx) ∨ (rf P a b 0 l = rf P a b i (l.drop i) ∧ Fm w1.heap.size 0 0 w wx))) (fun iv _ => L - (intOf iv).toNat)
    case atStart => exact ⟨0, by omega, rfl, .inr ⟨rfl, HM0.out⟩⟩
    case round =>
      obtain ⟨i, hi, rfl, HR⟩ := hrel
      rcases HR.out with ⟨hc0, hm⟩ | ⟨hrf, hm⟩
      · have HM : Hid (Fm w1.heap.size c d w wr) := hm
        have hcb : (c == 0) = false := beq_eq_false_iff_ne.2 hc0
        clear HR HM0 hc0 hm
        by_cases hlt : i < L
        · have t1 : decide (i < L) = true := decide_eq_true hlt
          have o0 : wr.cell? ⟨w.heap.size, 0, none⟩ = some (.int .i64 0) := HM.out.o.cell 0
          have o1 : wr.cell? ⟨w.heap.size, 1, none⟩ = some (.int .i64 0) := HM.out.o.cell 1
          have o2 := HM.out.o.frozen 0
          have o3 := HM.out.o.frozen 1
          have f0 : wr.cell? ⟨w1.heap.size, 0, none⟩ = some (.int .i64 c) := HM.out.f.cell 0
          have f1 : wr.cell? ⟨w1.heap.size, 1, none⟩ = some (.int .i64 d) := HM.out.f.cell 1
          have n1 : ¬ w.heap.size = w1.heap.size := by have := HM.out.ne; omega
          have n2 : ¬ w1.heap.size = w.heap.size := by have := HM.out.ne; omega
          go_wp2
          refine bodyPost_ret (v := .agg #[.int .i64 c, .int .i64 d]) (by simp [results, Tryd.results15, go_sem, o0, o1]) rfl ⟨rfl, ?_⟩
          exact (HM.out.k.setCell (by simp) _).setCell (by simp) _
        · have t1 : decide (i < L) = false := decide_eq_false hlt
          have o0 : wr.cell? ⟨w.heap.size, 0, none⟩ = some (.int .i64 0) := HM.out.o.cell 0
          have o1 : wr.cell? ⟨w.heap.size, 1, none⟩ = some (.int .i64 0) := HM.out.o.cell 1
          have o2 := HM.out.o.frozen 0
          have o3 := HM.out.o.frozen 1
          have f0 : wr.cell? ⟨w1.heap.size, 0, none⟩ = some (.int .i64 c) := HM.out.f.cell 0
          have f1 : wr.cell? ⟨w1.heap.size, 1, none⟩ = some (.int .i64 d) := HM.out.f.cell 1
          have n1 : ¬ w.heap.size = w1.heap.size := by have := HM.out.ne; omega
          have n2 : ¬ w1.heap.size = w.heap.size := by have := HM.out.ne; omega
          go_wp2
          refine bodyPost_ret (v := .agg #[.int .i64 c, .int .i64 d]) (by simp [results, Tryd.results15, go_sem, o0, o1]) rfl ⟨rfl, ?_⟩
          exact (HM.out.k.setCell (by simp) _).setCell (by simp) _
      · have HRf : Hid (rf P a b 0 l = rf P a b i (l.drop i)) := hrf
        clear HR HM0 hrf
        by_cases hlt : i < L
        · obtain rfl := HG.out (by omega)
          have hRf := HRf.out
          rw [rf_drop P a b l i (by rw [HL.out]; exact hlt)] at hRf
          obtain ⟨q, hq⟩ : ∃ q, l.getD i farP = q := ⟨_, rfl⟩
          rw [hq] at hRf
          have HRf2 : Hid (rf P a b 0 l = if hasB P a b q = true then rf P a b (i + 1) (l.drop (i + 1)) else (10, 3 + (i : Int))) := hRf
          obtain ⟨aa', g', cap', e', h1', h2'⟩ := HPS.out.below hm.k
          rw [HL.out] at e' h1' h2'
          injection e' with e1 e2 e3
          rw [(h1' (by omega)).1] at e1
          injection e1 with e1
          injection e1 with e1
          subst e1
          have hcell := h2' i hlt
          rw [hq] at hcell
          obtain ⟨x0, x1, x2⟩ := hcell
          have HH : Hid (∀ w, Calls Tryd.prog 11 #[.int .i64 P, .int .i64 a, .int .i64 b, Pv q] w fun e w' => e = .returned (.bool (hasB P a b q)) ∧ Below w.heap.size w w') := fun w => refOnCurve_any P a b q w HC.out.1
          unfold Pv at HH
          have HM : Hid (Fm w1.heap.size 0 0 w wr) := hm
          have f0 : wr.cell? ⟨w1.heap.size, 0, none⟩ = some (.int .i64 0) := hm.f.cell 0
          have t1 : decide (i < L) = true := decide_eq_true hlt
          clear hm hRf hq h1' h2' e2 e3 HRf
          go_wp2_with fail
          refine (HH.out _).mono ?_
          rintro e w2 ⟨rfl, k2⟩
          have HM2 : Hid (Fm w1.heap.size 0 0 w w2) := HM.out.below k2
          clear HM f0 k2 x0 x1 x2 HH
          cases hb : hasB P a b q
          · have hcd : c = 10 ∧ d = 3 + (i : Int) := by
              have h1 := HRf2.out
              rw [HC.out.2, hb, if_neg (by simp)] at h1
              simp only [Prod.mk.injEq] at h1
              exact h1
            obtain ⟨rfl, rfl⟩ := hcd
            clear hb HRf2
            go_wp2_with fail
            refine (F_any 10 (3 + (i : Int)) _).mono ?_
            rintro e w3 ⟨rfl, k3⟩
            have M3 := HM2.out.below k3
            have HM3 : Hid (Fm w1.heap.size 0 0 w w3) := M3
            have f0 : w3.cell? ⟨w1.heap.size, 0, none⟩ = some (.int .i64 0) := M3.f.cell 0
            have f1 : w3.cell? ⟨w1.heap.size, 1, none⟩ = some (.int .i64 0) := M3.f.cell 1
            have f2 := M3.f.frozen 0
            have f3 := M3.f.frozen 1
            clear M3 k3 HM2
            go_wp2
            go_roundw
            case rel => exact ⟨i + 1, by omega, by go_num, .inl ⟨by omega, HM3.out.set 10 (3 + (i : Int))⟩⟩
            case measure => simp [intOf]; omega
          · have HRn : Hid (rf P a b 0 l = rf P a b (i + 1) (l.drop (i + 1))) := by
              show _ = _
              rw [HRf2.out, hb, if_pos rfl]
            clear hb HRf2
            go_wp2
            go_roundw
            case rel => exact ⟨i + 1, by omega, by go_num, .inr ⟨HRn.out, HM2.out⟩⟩
            case measure => simp [intOf]; omega
        · have hcd : c = 0 ∧ d = 0 := by
            have h1 := HRf.out
            rw [HC.out.2, List.drop_of_length_le (by rw [HL.out]; omega), rf] at h1
            simp only [Prod.mk.injEq] at h1
            exact h1
          obtain ⟨rfl, rfl⟩ := hcd
          have HM : Hid (Fm w1.heap.size 0 0 w wr) := hm
          have t1 : decide (i < L) = false := decide_eq_false hlt
          clear hm HRf
          have o0 : wr.cell? ⟨w.heap.size, 0, none⟩ = some (.int .i64 0) := HM.out.o.cell 0
          have o1 : wr.cell? ⟨w.heap.size, 1, none⟩ = some (.int .i64 0) := HM.out.o.cell 1
          have o2 := HM.out.o.frozen 0
          have o3 := HM.out.o.frozen 1
          have f0 : wr.cell? ⟨w1.heap.size, 0, none⟩ = some (.int .i64 0) := HM.out.f.cell 0
          have f1 : wr.cell? ⟨w1.heap.size, 1, none⟩ = some (.int .i64 0) := HM.out.f.cell 1
          have n1 : ¬ w.heap.size = w1.heap.size := by have := HM.out.ne; omega
          have n2 : ¬ w1.heap.size = w.heap.size := by have := HM.out.ne; omega
          go_wp2
          refine bodyPost_ret (v := .agg #[.int .i64 0, .int .i64 0]) (by simp [results, Tryd.results15, go_sem, o0, o1]) rfl ⟨rfl, ?_⟩
          exact (HM.out.k.setCell (by simp) _).setCell (by simp) _

end Go.Proofs.YtbeceimopamllaaDoor
