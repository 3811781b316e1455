/- The program: equation.Markov; the law's examples. -/
import Derived.Test.YtcbepaionliepaaMkF
import Derived.Test.YtcbepaionliepaaCoD
set_option linter.unusedSimpArgs false
set_option linter.unusedVariables false
set_option maxRecDepth 100000
namespace Go.Proofs.Ytcbepaionliepaa
open Go.RowKit

theorem one_cell (a : Int) (W : World) (B : Nat) (h0 : W.cell? ⟨B, 0, none⟩ = some (.int .i64 a)) : ∀ j, j < [a].length → W.cell? ⟨B, 0 + j, none⟩ = some (.int .i64 ([a].getD j 0)) := by
  intro j hj
  match j, hj with
  | 0, _ => exact h0

set_option maxHeartbeats 2000000 in
theorem Markov_bad (m : Int) (w : World) (h : m < 0 ∨ 1000000000000000000 < m) :
    Calls Try.prog 14 #[.int .i64 m] w fun e w' => e = .returned (.tuple #[.slice none 0 0, .agg #[.int .i64 3, .int .i64 0]]) ∧ Below w.heap.size w w' := by
  have HK : Hid (nb 0 1000000000000000000 0 [m] = (3, 0)) := by
    show _ = _
    rw [nb, if_neg (by simp [bwB]; omega)]; rfl
  clear h
  go_enter Try.func14, Try.ntmps14
  go_wp2_with fail
  refine (between_any 0 1000000000000000000 [m] _ 0 _ _ (by simp) ?_ ?_).mono ?_
  · simp
  · exact one_cell m _ _ (by simp)
  rw [HK.out]
  rintro e w1 ⟨rfl, hb⟩
  have hz : w.heap.size < w1.heap.size := by have := hb.size; simp at this; omega
  have q0 : w1.cell? ⟨w.heap.size, 0, none⟩ = some (.int .i64 0) := cell_later hb (by simp)
  have q1 : w1.cell? ⟨w.heap.size, 1, none⟩ = some (.int .i64 0) := cell_later hb (by simp)
  have q2 : w1.frozen? ⟨w.heap.size, 0, none⟩ = false := (hb.frozen (p := ⟨w.heap.size, 0, none⟩) (by simp; omega)).trans (by simp)
  have q3 : w1.frozen? ⟨w.heap.size, 1, none⟩ = false := (hb.frozen (p := ⟨w.heap.size, 1, none⟩) (by simp; omega)).trans (by simp)
  go_wp2
  go_region
  all_goals
    go_wp2
    refine bodyPost_ret (v := .tuple #[.slice none 0 0, .agg #[.int .i64 3, .int .i64 0]]) (by simp [results, Try.results14, go_sem, q0, q1, hz]) rfl ⟨rfl, ?_⟩
    refine Below.drew (Below.alloc (Below.setCell (Below.setCell (Below.trans (Below.alloc (Below.alloc (Below.refl _ _) ?_ _) ?_ _) (hb.mono ?_)) ?_ _) ?_ _) ?_ _) <;> first | omega | (simp; done) | (simp; omega)

set_option maxHeartbeats 2000000 in
theorem Markov_ok (m : Nat) (w : World) (h : m ≤ 1000000000000000000) :
    Calls Try.prog 14 #[.int .i64 (m : Int)] w fun e w' => ∃ v, e = .returned (.tuple #[v, .agg #[.int .i64 0, .int .i64 0]]) ∧ TR w.heap.size w' v (MV.um m) ∧ Below w.heap.size w w' := by
  have HK : Hid (nb 0 1000000000000000000 0 [(m : Int)] = (0, 0)) := by
    show _ = _
    rw [nb, if_pos (by simp [bwB]; omega)]; rfl
  have HM : Hid (∀ w, Calls Try.prog 35 #[.int .i64 (m : Int)] w fun e w' => ∃ v, e = .returned v ∧ TR w.heap.size w' v (MV.um m) ∧ Below w.heap.size w w') := fun w => markov_any m w h
  clear h
  go_enter Try.func14, Try.ntmps14
  go_wp2_with fail
  refine (between_any 0 1000000000000000000 [(m : Int)] _ 0 _ _ (by simp) ?_ ?_).mono ?_
  · simp
  · exact one_cell (m : Int) _ _ (by simp)
  rw [HK.out]
  rintro e w1 ⟨rfl, hb⟩
  have S1 : Sv w.heap.size 0 0 w1 := ((Sv.new 0 0 w).alloc _ _).below hb
  have HS1 : Hid (Sv w.heap.size 0 0 w1 ∧ Below w.heap.size w w1) := ⟨S1, (Below.alloc (Below.alloc (Below.refl _ _) (Nat.le_refl _) _) (by simp) _).trans (hb.mono (by simp; omega))⟩
  clear S1 hb
  go_wp2_with fail
  refine (HM.out _).mono ?_
  rintro e w2 ⟨v, rfl, r2, k2⟩
  have HS2 : Hid (Below w.heap.size w w2) := ((Below.alloc HS1.out.2 HS1.out.2.size _).trans (k2.mono (by simp; have := HS1.out.2.size; omega)))
  obtain ⟨q0, q1, q2, q3, hz⟩ := (HS1.out.1.alloc _ _).below k2
  have HT : Hid (∀ x y : Value, TR w.heap.size ((w2.setCell ⟨w.heap.size, 0, none⟩ x).setCell ⟨w.heap.size, 1, none⟩ y) v (MV.um m)) := fun x y => by
    have hlt : w.heap.size < (w1.alloc (.cells #[.int .i64 0, .int .i64 0] 23)).heap.size := by simp; have := HS1.out.1.lt; omega
    exact ((r2.set hlt x).set hlt y).mono (by omega)
  clear r2 k2
  go_wp2
  refine bodyPost_ret (v := .tuple #[v, .agg #[.int .i64 0, .int .i64 0]]) (by simp [results, Try.results14, go_sem, q0, q1, hz]) rfl ⟨v, rfl, HT.out _ _, ?_⟩
  exact Below.setCell (Below.setCell HS2.out (Nat.le_refl _) _) (Nat.le_refl _) _

theorem gl_6 : CO.gl [6, 9, 20] = 1 := by decide
/-- The least sums of 6, 9 and 20. -/
theorem coins_6 {L : Nat → Nat} (h : CO.G 6 [6, 9, 20] 3 L) : mx L 5 = 49 ∧ CO.su (fun r => L r / 6) 6 = 22 := by
  have hf : CO.Fi 6 20 L := CO.Fi.step (by omega) (by simp) h gl_6 (fun c hc => by simp at hc; omega) (by omega)
  have up : ∀ n, CO.Sm [6, 9, 20] n → L (n % 6) ≤ n := h.low (by omega)
  have lo : ∀ r, r < 6 → CO.Sm [6, 9, 20] (L r) ∧ L r % 6 = r := fun r hr => h.so r hr (by have := hf.le r hr; omega)
  have sm : ∀ a b c : Nat, CO.Sm [6, 9, 20] (a * 6 + (b * 9 + (c * 20 + 0))) := fun a b c => ⟨a, _, rfl, b, _, rfl, c, 0, rfl, rfl⟩
  have ex : ∀ n, CO.Sm [6, 9, 20] n → ∃ a b c : Nat, n = a * 6 + b * 9 + c * 20 := fun n hn => by
    obtain ⟨a, r, e, b, r2, e2, c, r3, e3, e4⟩ := hn
    have : r3 = 0 := e4
    exact ⟨a, b, c, by omega⟩
  have u0 := h.z
  have u1 := up 49 (sm 0 1 2)
  have u2 := up 20 (sm 0 0 1)
  have u3 := up 9 (sm 0 1 0)
  have u4 := up 40 (sm 0 0 2)
  have u5 := up 29 (sm 0 1 1)
  have e1 : L 1 = 49 := by
    obtain ⟨s, m⟩ := lo 1 (by omega)
    obtain ⟨a, b, c, e⟩ := ex _ s
    have : L 1 ≤ 49 := u1
    omega
  have e2 : L 2 = 20 := by
    obtain ⟨s, m⟩ := lo 2 (by omega)
    obtain ⟨a, b, c, e⟩ := ex _ s
    have : L 2 ≤ 20 := u2
    omega
  have e3 : L 3 = 9 := by
    obtain ⟨s, m⟩ := lo 3 (by omega)
    obtain ⟨a, b, c, e⟩ := ex _ s
    have : L 3 ≤ 9 := u3
    omega
  have e4 : L 4 = 40 := by
    obtain ⟨s, m⟩ := lo 4 (by omega)
    obtain ⟨a, b, c, e⟩ := ex _ s
    have : L 4 ≤ 40 := u4
    omega
  have e5 : L 5 = 29 := by
    obtain ⟨s, m⟩ := lo 5 (by omega)
    obtain ⟨a, b, c, e⟩ := ex _ s
    have : L 5 ≤ 29 := u5
    omega
  constructor
  · simp only [mx, u0, e1, e2, e3, e4, e5]; omega
  · simp only [CO.su, u0, e1, e2, e3, e4, e5]

theorem eq3c (w : World) : (Op.equalIn 10000 42 (.agg #[.int .i64 2, .int .i64 5, .int .i64 29]) (.agg #[.int .i64 2, .int .i64 5, .int .i64 29])).run Try.prog w = .ok true w := by kernel_rfl

set_option maxRecDepth 100000 in
set_option maxHeartbeats 4000000 in
theorem equationBegun_any (w : World) : Calls Try.prog 9 #[] w fun e w' => e = .returned (.bool true) ∧ Below w.heap.size w w' := by
  have HC : Hid (∀ (g : Nat) (w : World), Ro g 0 3 (fun j => [6, 9, 20].getD j 0) w → Calls Try.prog 23 #[.slice (some ⟨g, 0, none⟩) 3 3] w fun e w' => e = .returned (CoV 43 22 0 0) ∧ Below w.heap.size w w') := fun g w hr => by
    refine (Coins_ok [6, 9, 20] g 0 3 w (by simp) (by simp) (fun j hj => by
      match j, hj with
      | 0, _ => decide
      | 1, _ => decide
      | 2, _ => decide) gl_6 hr).mono ?_
    rintro e w' ⟨m, L, e1, hG, rfl, k⟩
    have e6 : m = 6 := e1
    subst e6
    have := coins_6 hG
    refine ⟨?_, k⟩
    rw [this.1, this.2]; rfl
  have HM : Hid (∀ w : World, Calls Try.prog 14 #[.int .i64 30] w fun e w' => ∃ v, e = .returned (.tuple #[v, .agg #[.int .i64 0, .int .i64 0]]) ∧ TR w.heap.size w' v (MV.um 30) ∧ Below w.heap.size w w') := fun w => Markov_ok 30 w (by omega)
  go_enter Try.func9, Try.ntmps9
  go_wp2_with fail
  have C1 : Cl w.heap.size [.int .i64 6, .int .i64 9, .int .i64 20] 3 (w.alloc (.cells #[.int .i64 6, .int .i64 9, .int .i64 20] 3)) := Cl.new [.int .i64 6, .int .i64 9, .int .i64 20] _ w
  refine (HC.out _ _ ⟨fun j hj => by
    match j, hj with
    | 0, _ => exact C1.cell 0
    | 1, _ => exact C1.cell 1
    | 2, _ => exact C1.cell 2, C1.lt⟩).mono ?_
  rintro e w1 ⟨rfl, k1⟩
  have HK1 : Hid (Below w.heap.size w w1) := (Below.alloc (Below.refl _ _) (Nat.le_refl _) _).trans (k1.mono (by simp))
  clear k1 C1 HC
  go_wp2_with fail
  refine (HM.out _).mono ?_
  rintro e w2 ⟨v, rfl, r2, k2⟩
  obtain ⟨aa, g, cc, rfl, a2, c2⟩ := r2.shape
  rw [MV.um_30] at a2 c2
  obtain ⟨rfl, a3, a4⟩ := a2 (by simp)
  have d0 : w2.cell? ⟨g, 12, none⟩ = some (.int .i64 2) := c2 12 (by simp)
  have d1 : w2.cell? ⟨g, 13, none⟩ = some (.int .i64 5) := c2 13 (by simp)
  have d2 : w2.cell? ⟨g, 14, none⟩ = some (.int .i64 29) := c2 14 (by simp)
  have F2 := (Cl.new [.int .i64 0, .int .i64 0] 23 w1).below k2
  have f0 : ∀ o : Obj, (w2.alloc o).cell? ⟨w1.heap.size, 0, none⟩ = some (.int .i64 0) := fun o => (F2.alloc o).cell 0
  have al : ∀ (o : Obj) (j : Nat), (w2.alloc o).cell? ⟨g, j, none⟩ = w2.cell? ⟨g, j, none⟩ := fun o j => (Below.alloc (Below.refl w2.heap.size w2) (Nat.le_refl _) o).cell (p := ⟨g, j, none⟩) a4
  have g0 : ∀ o : Obj, (w2.alloc o).cell? ⟨g, 12, none⟩ = some (.int .i64 2) := fun o => (al o 12).trans d0
  have g1 : ∀ o : Obj, (w2.alloc o).cell? ⟨g, 13, none⟩ = some (.int .i64 5) := fun o => (al o 13).trans d1
  have g2 : ∀ o : Obj, (w2.alloc o).cell? ⟨g, 14, none⟩ = some (.int .i64 29) := fun o => (al o 14).trans d2
  have HK2 : Hid (Below w.heap.size w (w2.alloc (.cells #[.int .i64 0, .int .i64 0] 23))) := by
    have hs := HK1.out.size
    have hs2 := k2.size
    simp at hs2
    exact Below.alloc ((Below.alloc HK1.out hs _).trans (k2.mono (by simp; omega))) (by omega) _
  rw [show (MV.um 30).length = 5 by rw [MV.um_30]; rfl]
  clear F2 al d0 d1 d2 c2 a2 a3 a4 k2 r2 HM
  have heq := eq3c
  go_wp2
  go_ret
  exact ⟨rfl, HK2.out⟩

end Go.Proofs.Ytcbepaionliepaa
