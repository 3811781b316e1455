/- The program: torsion.Points. -/
import Derived.Test.YtknnidbdgfimbaaJnE
set_option linter.unusedSimpArgs false
set_option linter.unusedVariables false
set_option maxRecDepth 100000
namespace Go.Proofs.Ytknnidbdgfimbaa
open Go.RowKit TN

/-- What Points holds in memory behind Check. -/
structure Tm (z gb : Nat) (c d : Int) (w W : World) : Prop where
  f : Cl z [.int .i64 0, .int .i64 0] 23 W
  e : Cl gb [.int .i64 c, .int .i64 d] 23 W
  ne : z < gb
  k : Below z w W

theorem trow_low {B B' e n size : Nat} {v : Value} {xs : List Value} {w : World} (h : w.ownsRow B e size v n xs) (hb : B' ≤ B) : w.ownsRow B' e size v n xs := by
  refine ⟨h.1, ?_⟩
  rcases h.2 with h2 | ⟨g, cap, cur, h2, h3, rest⟩
  · exact .inl h2
  · exact .inr ⟨g, cap, cur, h2, by omega, rest⟩

set_option maxHeartbeats 2000000 in
theorem tPoints_bad (a b : Int) (w : World) (hc : (tf a b).1 ≠ 0) :
    Calls Try.prog 6 #[.int .i64 a, .int .i64 b] w fun e w' => e = .returned (.tuple #[.slice none 0 0, .agg #[.int .i64 (tf a b).1, .int .i64 (tf a b).2]]) ∧ Below w.heap.size w w' := by
  have HCk : Hid (∀ w, Calls Try.prog 5 #[.int .i64 a, .int .i64 b] w fun e w' => e = .returned (.agg #[.int .i64 (tf a b).1, .int .i64 (tf a b).2]) ∧ Below w.heap.size w w') := fun w => tCheck_any a b w
  obtain ⟨c, hc1⟩ : ∃ c, (tf a b).1 = c := ⟨_, rfl⟩
  obtain ⟨d, hd1⟩ : ∃ d, (tf a b).2 = d := ⟨_, rfl⟩
  rw [hc1, hd1] at HCk ⊢
  rw [hc1] at hc
  have hcb : (c != 0) = true := by simp [bne]; exact hc
  clear hc hc1 hd1
  go_enter Try.func6, Try.ntmps6
  go_wp2_with fail
  have Ce : Cl w.heap.size [.int .i64 0, .int .i64 0] 23 (w.alloc (.cells #[.int .i64 0, .int .i64 0] 23)) := Cl.new _ _ w
  have K0 := tala w (.cells #[.int .i64 0, .int .i64 0] 23)
  refine (HCk.out _).mono ?_
  rintro e w1 ⟨rfl, k1⟩
  have K1 : Below w.heap.size w w1 := K0.trans (k1.mono K0.size)
  have HM : Hid (Tm w.heap.size w1.heap.size c d w (w1.alloc (.cells #[.int .i64 c, .int .i64 d] 23))) :=
    ⟨(Ce.below k1).alloc _, Cl.new [.int .i64 c, .int .i64 d] _ w1, (Ce.below k1).lt, K1.alloc K1.size _⟩
  clear Ce K0 K1 k1 HCk
  go_wp2
  generalize hW : World.alloc _ _ = W at HM ⊢
  have n5 : ¬ w.heap.size = w1.heap.size := by have := HM.out.ne; omega
  have n6 : ¬ w1.heap.size = w.heap.size := by have := HM.out.ne; omega
  clear hW
  have f0 : W.cell? ⟨w.heap.size, 0, none⟩ = some (.int .i64 0) := HM.out.f.cell 0
  have f1 : W.cell? ⟨w.heap.size, 1, none⟩ = some (.int .i64 0) := HM.out.f.cell 1
  have f3 := HM.out.f.frozen 0
  have f4 := HM.out.f.frozen 1
  have c0 : W.cell? ⟨w1.heap.size, 0, none⟩ = some (.int .i64 c) := HM.out.e.cell 0
  have c1 : W.cell? ⟨w1.heap.size, 1, none⟩ = some (.int .i64 d) := HM.out.e.cell 1
  go_region
  all_goals
    go_wp2
    refine bodyPost_ret (v := .tuple #[.slice none 0 0, .agg #[.int .i64 c, .int .i64 d]]) (by simp [results, Try.results6, go_sem, f0, f1]) rfl ⟨rfl, ?_⟩
    first
    | exact (Below.setCell (Below.setCell HM.out.k.drew (by simp) _) (by simp) _)
    | exact (Below.setCell (Below.setCell HM.out.k (by simp) _) (by simp) _).drew

set_option maxHeartbeats 2000000 in
theorem tPoints_ok (a b : Int) (w : World) (h : Cu a b) :
    Calls Try.prog 6 #[.int .i64 a, .int .i64 b] w fun e w' => ∃ (aa : Option Addr) (cc : Nat), e = .returned (.tuple #[.slice aa ((lkI a b).length + 1) cc, .agg #[.int .i64 0, .int .i64 0]]) ∧ w'.ownsRow w.heap.size 30 3 (.slice aa ((lkI a b).length + 1) cc) ((lkI a b).length + 1) (icl' ((0, 0, true, 1) :: lkI a b)) ∧ Below w.heap.size w w' := by
  have HCk : Hid (∀ w, Calls Try.prog 5 #[.int .i64 a, .int .i64 b] w fun e w' => e = .returned (.agg #[.int .i64 0, .int .i64 0]) ∧ Below w.heap.size w w') := fun w => by
    have := tCheck_any a b w
    rw [tf_cu h] at this
    exact this
  have HG : Hid (∀ w, Calls Try.prog 17 #[.int .i64 a, .int .i64 b] w fun e w' => e = .returned (Tv a b) ∧ Below w.heap.size w w') := fun w => groupOf_any a b w h
  have HC : Hid (Cu a b) := h
  clear h
  go_enter Try.func6, Try.ntmps6
  go_wp2_with fail
  have Ce : Cl w.heap.size [.int .i64 0, .int .i64 0] 23 (w.alloc (.cells #[.int .i64 0, .int .i64 0] 23)) := Cl.new _ _ w
  have K0 := tala w (.cells #[.int .i64 0, .int .i64 0] 23)
  refine (HCk.out _).mono ?_
  rintro e w1 ⟨rfl, k1⟩
  have K1 : Below w.heap.size w w1 := K0.trans (k1.mono K0.size)
  have HM : Hid (Tm w.heap.size w1.heap.size 0 0 w (w1.alloc (.cells #[.int .i64 0, .int .i64 0] 23))) :=
    ⟨(Ce.below k1).alloc _, Cl.new [.int .i64 0, .int .i64 0] _ w1, (Ce.below k1).lt, K1.alloc K1.size _⟩
  clear Ce K0 K1 k1 HCk
  go_wp2_with fail
  refine (HG.out _).mono ?_
  rintro e w2 ⟨rfl, k2⟩
  have HW1 : (w1.alloc (.cells #[.int .i64 0, .int .i64 0] 23)).heap.size = w1.heap.size + 1 := by simp
  obtain ⟨W1, hW1⟩ : ∃ W1, (w1.alloc (.cells #[.int .i64 0, .int .i64 0] 23)) = W1 := ⟨_, rfl⟩
  rw [hW1] at HM HW1 k2
  have HS2 : Hid (StP W1 (w1.heap.size + 1) [] w2) := by
    refine ⟨none, 0, ?_, World.ownsRow_nil _ _ _ _, (tala _ _).trans (k2.mono (by simp)), by have := HW1; omega⟩
    exact (tcnew _ [.slice none 0 0] 25 (w1.heap.size + 1) (by rw [HW1])).below k2
  clear k2 HG hW1
  unfold Tv
  go_wp2_with fail
  refine (eachP_any W1 (w1.heap.size + 1) a b w2 HC.out HS2.out).mono ?_
  rintro e w3 ⟨⟨v3, rfl⟩, aa, cc, l3, r3, b3, g3⟩
  have F3 := HM.out.f.below b3
  have L0 : w3.cell? ⟨w1.heap.size + 1, 0, none⟩ = some (.slice aa ((lkI a b).length + 1) cc) := l3.cell 0
  have f0 : w3.cell? ⟨w.heap.size, 0, none⟩ = some (.int .i64 0) := F3.cell 0
  have f1 : w3.cell? ⟨w.heap.size, 1, none⟩ = some (.int .i64 0) := F3.cell 1
  have f2 := F3.frozen 0
  have f4 := F3.frozen 1
  have HE : Hid ((((w3.setCell ⟨w.heap.size, 0, none⟩ (.int .i64 0)).setCell ⟨w.heap.size, 1, none⟩ (.int .i64 0))).ownsRow w.heap.size 30 3 (.slice aa ((lkI a b).length + 1) cc) ((lkI a b).length + 1) (icl' ((0, 0, true, 1) :: lkI a b)) ∧ Below w.heap.size w ((w3.setCell ⟨w.heap.size, 0, none⟩ (.int .i64 0)).setCell ⟨w.heap.size, 1, none⟩ (.int .i64 0))) := by
    have hn := HM.out.ne
    refine ⟨trow_low (trow_kept r3 fun g e => ?_) (show w.heap.size ≤ w1.heap.size + 1 + 1 by omega), ?_⟩
    · have hg := (r3.lt g e).1
      exact (Below.heap_setCell _ ⟨w.heap.size, 1, none⟩ _ g (by show g ≠ w.heap.size; omega)).trans (Below.heap_setCell w3 ⟨w.heap.size, 0, none⟩ _ g (by show g ≠ w.heap.size; omega))
    · exact ((HM.out.k.trans (b3.mono (by have := HM.out.k.size; omega))).setCell (by simp) _).setCell (by simp) _
  have Z := (F3.set 0 (.int .i64 0)).set 1 (.int .i64 0)
  have z0 := Z.cell 0
  have z1 := Z.cell 1
  simp at z0 z1
  have HZ : Hid ((((w3.setCell ⟨w.heap.size, 0, none⟩ (.int .i64 0)).setCell ⟨w.heap.size, 1, none⟩ (.int .i64 0))).cell? ⟨w.heap.size, 0, none⟩ = some (.int .i64 0) ∧ (((w3.setCell ⟨w.heap.size, 0, none⟩ (.int .i64 0)).setCell ⟨w.heap.size, 1, none⟩ (.int .i64 0))).cell? ⟨w.heap.size, 1, none⟩ = some (.int .i64 0)) := ⟨Z.cell 0, Z.cell 1⟩
  clear F3 l3 r3 b3 g3 Z z0 z1 HS2 HM HW1
  go_wp2
  obtain ⟨z0, z1⟩ := HZ.out
  exact bodyPost_ret (v := .tuple #[.slice aa ((lkI a b).length + 1) cc, .agg #[.int .i64 0, .int .i64 0]]) (by simp [results, Try.results6, go_sem, z0, z1]) rfl ⟨aa, cc, rfl, HE.out⟩

end Go.Proofs.Ytknnidbdgfimbaa
