/- The program: curve.read of a curve without a fault. -/
import Derived.Test.YtbeceimopamllaaDoorCuG
set_option linter.unusedSimpArgs false
set_option linter.unusedVariables false
set_option maxRecDepth 100000
namespace Go.Proofs.YtbeceimopamllaaDoor
open Go.RowKit EC

theorem cf_of {P : Nat} {a b : Int} (h : Cv P a b) : Cf P a b 0 0 :=
  .inr ⟨P, rfl, h.p5, h.p2, .inr ⟨h.pr, .inr ⟨h.a0, h.a1, .inr ⟨h.b0, h.b1, .inr ⟨h.dis, rfl, rfl⟩⟩⟩⟩⟩

set_option maxHeartbeats 2000000 in
theorem read_ok (P : Nat) (a b c d : Int) (s : Value) (l : List Pn) (w : World) (hc : Cv P a b) (hs : PS w s l) (hl : l.length ≤ 1000000) (hr : rf P a b 0 l = (c, d)) (hT : Tb w) :
    Calls Tryd.prog 25 #[.int .i64 P, .int .i64 a, .int .i64 b, s] w fun e w' => e = .returned (.tuple #[Gz0 P a b c, .agg #[.int .i64 c, .int .i64 d]]) ∧ Below w.heap.size w w' := by
  have HCk : Hid (∀ w, Tb w → Calls Tryd.prog 7 #[.int .i64 P, .int .i64 a, .int .i64 b] w fun e w' => e = .returned (.agg #[.int .i64 0, .int .i64 0]) ∧ Below w.heap.size w w') := fun w hT => cCheck_any P a b 0 0 w (cf_of hc) hT
  have O0 : Cl w.heap.size [.int .i64 0, .int .i64 0, .int .i64 0] 52 ((w.alloc (.cells #[.int .i64 0, .int .i64 0, .int .i64 0] 52)).alloc (.cells #[.int .i64 0, .int .i64 0] 23)) := (Cl.new _ _ w).alloc _
  have F0 : Cl (w.heap.size + 1) [.int .i64 0, .int .i64 0] 23 ((w.alloc (.cells #[.int .i64 0, .int .i64 0, .int .i64 0] 52)).alloc (.cells #[.int .i64 0, .int .i64 0] 23)) := cnew _ [.int .i64 0, .int .i64 0] _ _ (by simp)
  have K0 := al2 w (.cells #[.int .i64 0, .int .i64 0, .int .i64 0] 52) (.cells #[.int .i64 0, .int .i64 0] 23)
  have HTb : Hid (Tb ((w.alloc (.cells #[.int .i64 0, .int .i64 0, .int .i64 0] 52)).alloc (.cells #[.int .i64 0, .int .i64 0] 23))) := (hT.alloc _).alloc _
  have HC : Hid (Cv P a b ∧ rf P a b 0 l = (c, d)) := ⟨hc, hr⟩
  have HPS : Hid (PS w s l) := hs
  obtain ⟨aa, g, cap, rfl, hg, hcl⟩ := hs
  obtain ⟨L, hL⟩ : ∃ L, l.length = L := ⟨_, rfl⟩
  have HL : Hid (l.length = L) := hL
  have HG : Hid (0 < L → aa = some ⟨g, 0, none⟩) := fun h => (hg (by omega)).1
  rw [hL] at hl HPS ⊢
  have hPS2 := HPS.out
  clear hc hT hr hg hcl hL
  go_enter Tryd.func25, Tryd.ntmps25
  go_wp2_with fail
  refine (HCk.out _ HTb.out).mono ?_
  rintro e w1 ⟨rfl, k1⟩
  have O1 := ((O0.below k1).alloc (.cells #[.int .i64 0, .int .i64 0] 23)).alloc (.cells #[.int .i64 P, .int .i64 a, .int .i64 b] 52)
  have F1 := ((F0.below k1).alloc (.cells #[.int .i64 0, .int .i64 0] 23)).alloc (.cells #[.int .i64 P, .int .i64 a, .int .i64 b] 52)
  have K1 : Below w.heap.size w w1 := K0.trans (k1.mono K0.size)
  have K2 : Below w.heap.size w ((w1.alloc (.cells #[.int .i64 0, .int .i64 0] 23)).alloc (.cells #[.int .i64 P, .int .i64 a, .int .i64 b] 52)) := (K1.alloc K1.size _).alloc (by have := K1.size; simp; omega) _
  have R1 : Rm w.heap.size (w1.heap.size + 1) P a b (.slice aa L cap) l w ((w1.alloc (.cells #[.int .i64 0, .int .i64 0] 23)).alloc (.cells #[.int .i64 P, .int .i64 a, .int .i64 b] 52)) :=
    ⟨O1, F1, cnew _ (Gl P a b) _ _ (by simp), HPS.out.below K2, by have := (F0.below k1).lt; omega, K2⟩
  have HR1 : Hid (Rm _ _ _ _ _ _ _ _ _) := R1
  have HZ : Hid (w.heap.size + 1 < w1.heap.size) := (F0.below k1).lt
  clear k1 O0 F0 K0 K1 K2 O1 F1 R1 HCk HTb hPS2
  go_wp2
  go_loopw [29] (fun iv wx => ∃ i : Nat, i ≤ L ∧ iv = .int .i64 i ∧ Hid (Rm w.heap.size (w1.heap.size + 1) P a b (.slice aa L cap) l w wx ∧ rf P a b 0 l = rf P a b i (l.drop i))) (fun iv _ => L - (intOf iv).toNat)
  case atStart => exact ⟨0, Nat.zero_le _, rfl, HR1.out, rfl⟩
  case round =>
    obtain ⟨i, hi, rfl, HO⟩ := hrel
    clear HR1
    by_cases hlt : i < L
    · obtain rfl := HG.out (by omega)
      have hRf := HO.out.2
      rw [rf_drop P a b l i (by rw [HL.out]; exact hlt)] at hRf
      obtain ⟨q, hq⟩ : ∃ q, l.getD i farP = q := ⟨_, rfl⟩
      rw [hq] at hRf
      have HRf : Hid (rf P a b 0 l = if hasB P a b q = true then rf P a b (i + 1) (l.drop (i + 1)) else (10, 3 + (i : Int))) := hRf
      obtain ⟨aa', g', cap', e', h1', h2'⟩ := HO.out.1.s
      rw [HL.out] at e' h1' h2'
      injection e' with e1 e2 e3
      rw [(h1' (by omega)).1] at e1
      injection e1 with e1
      injection e1 with e1
      subst e1
      have hcell := h2' i hlt
      rw [hq] at hcell
      obtain ⟨x0, x1, x2⟩ := hcell
      have HH : Hid (∀ w, Calls Tryd.prog 37 #[Gv P a b, Pv q] w fun e w' => e = .returned (.bool (hasB P a b q)) ∧ Below w.heap.size w w') := fun w => has_any P a b q w HC.out.1
      unfold Gv Pv at HH
      have g0 : ∀ x : Obj, (wr.alloc x).cell? ⟨w1.heap.size + 1, 0, none⟩ = some (.int .i64 P) := fun x => (HO.out.1.g.alloc x).cell 0
      have g1 : ∀ x : Obj, (wr.alloc x).cell? ⟨w1.heap.size + 1, 1, none⟩ = some (.int .i64 a) := fun x => (HO.out.1.g.alloc x).cell 1
      have g2 : ∀ x : Obj, (wr.alloc x).cell? ⟨w1.heap.size + 1, 2, none⟩ = some (.int .i64 b) := fun x => (HO.out.1.g.alloc x).cell 2
      have HR2 : Hid (Rm w.heap.size (w1.heap.size + 1) P a b (.slice (some ⟨g, 0, none⟩) L cap) l w (wr.alloc (.cells #[.int .i64 q.x, .int .i64 q.y, .bool q.far] 30))) := HO.out.1.below (ala _ _)
      clear HO hRf hq h1' h2' e2 e3
      go_wp2_with fail
      refine (HH.out _).mono ?_
      rintro e w2 ⟨rfl, k2⟩
      have R3 := HR2.out.below k2
      have HR3 : Hid (Rm w.heap.size (w1.heap.size + 1) P a b (.slice (some ⟨g, 0, none⟩) L cap) l w w2) := R3
      clear HR2 k2 g0 g1 g2 x0 x1 x2 HH
      have o0 : w2.cell? ⟨w.heap.size, 0, none⟩ = some (.int .i64 0) := R3.o.cell 0
      have o1 : w2.cell? ⟨w.heap.size, 1, none⟩ = some (.int .i64 0) := R3.o.cell 1
      have o2 : w2.cell? ⟨w.heap.size, 2, none⟩ = some (.int .i64 0) := R3.o.cell 2
      have o3 := R3.o.frozen 0
      have o4 := R3.o.frozen 1
      have o5 := R3.o.frozen 2
      have f0 : w2.cell? ⟨w.heap.size + 1, 0, none⟩ = some (.int .i64 0) := R3.f.cell 0
      have f1 : w2.cell? ⟨w.heap.size + 1, 1, none⟩ = some (.int .i64 0) := R3.f.cell 1
      have f3 := R3.f.frozen 0
      have f4 := R3.f.frozen 1
      clear R3
      cases hb : hasB P a b q
      · have hcd : c = 10 ∧ d = 3 + (i : Int) := by
          have h1 := HRf.out
          rw [HC.out.2, hb, if_neg (by simp)] at h1
          simp only [Prod.mk.injEq] at h1
          exact h1
        obtain ⟨rfl, rfl⟩ := hcd
        clear hb HRf
        go_wp2
        refine bodyPost_ret (v := .tuple #[.agg #[.int .i64 0, .int .i64 0, .int .i64 0], .agg #[.int .i64 10, .int .i64 (3 + (i : Int))]]) (by simp [results, Tryd.results25, go_sem, o0, o1, o2, f0, f1]) rfl ⟨by rw [Gz0, if_neg (by omega)], ?_⟩
        exact (Below.setCell (Below.setCell (Below.setCell (Below.setCell (Below.setCell HR3.out.k (by simp) _) (by simp) _) (by simp) _) (by simp) _) (by simp) _)
      · have HRn : Hid (rf P a b 0 l = rf P a b (i + 1) (l.drop (i + 1))) := by
          show _ = _
          rw [HRf.out, hb, if_pos rfl]
        clear hb HRf
        go_wp2
        go_roundw
        case rel => exact ⟨i + 1, by omega, by go_num, HR3.out, HRn.out⟩
        case measure => simp [intOf]; omega
    · obtain rfl : i = L := by omega
      have hcd : c = 0 ∧ d = 0 := by
        have h1 := HO.out.2
        rw [HC.out.2, List.drop_of_length_le (by rw [HL.out]; omega), rf] at h1
        simp only [Prod.mk.injEq] at h1
        exact h1
      obtain ⟨rfl, rfl⟩ := hcd
      have R3 := HO.out.1
      have HR3 : Hid (Rm w.heap.size (w1.heap.size + 1) P a b (.slice aa i cap) l w wr) := R3
      have o0 : wr.cell? ⟨w.heap.size, 0, none⟩ = some (.int .i64 0) := R3.o.cell 0
      have o1 : wr.cell? ⟨w.heap.size, 1, none⟩ = some (.int .i64 0) := R3.o.cell 1
      have o2 : wr.cell? ⟨w.heap.size, 2, none⟩ = some (.int .i64 0) := R3.o.cell 2
      have o3 := R3.o.frozen 0
      have o4 := R3.o.frozen 1
      have o5 := R3.o.frozen 2
      have f0 : wr.cell? ⟨w.heap.size + 1, 0, none⟩ = some (.int .i64 0) := R3.f.cell 0
      have f1 : wr.cell? ⟨w.heap.size + 1, 1, none⟩ = some (.int .i64 0) := R3.f.cell 1
      have f3 := R3.f.frozen 0
      have f4 := R3.f.frozen 1
      have g0 : wr.cell? ⟨w1.heap.size + 1, 0, none⟩ = some (.int .i64 P) := R3.g.cell 0
      have g1 : wr.cell? ⟨w1.heap.size + 1, 1, none⟩ = some (.int .i64 a) := R3.g.cell 1
      have g2 : wr.cell? ⟨w1.heap.size + 1, 2, none⟩ = some (.int .i64 b) := R3.g.cell 2
      clear R3
      go_wp2
      refine bodyPost_ret (v := .tuple #[.agg #[.int .i64 P, .int .i64 a, .int .i64 b], .agg #[.int .i64 0, .int .i64 0]]) (by simp [results, Tryd.results25, go_sem, o0, o1, o2, f0, f1]) rfl ⟨by rw [Gz0, if_pos rfl]; rfl, ?_⟩
      exact (Below.setCell (Below.setCell (Below.setCell (Below.setCell (Below.setCell HR3.out.k (by simp) _) (by simp) _) (by simp) _) (by simp) _) (by simp) _)

end Go.Proofs.YtbeceimopamllaaDoor
