/- joined at the example (-1 by 5). Made of RsG by rtx.py. -/
import Derived.Test.YtoionlnbodfhlacGreatDoorRtF
import Derived.Laws.EntriesVeiled
set_option linter.unusedSimpArgs false
set_option linter.unusedVariables false
set_option maxRecDepth 100000
namespace Go.Proofs.YtoionlnbodfhlacGreatDoor.R5
open Go.RowKit

set_option maxHeartbeats 1000000 in
theorem ch_zero (N : Nat) (hN : 2 ≤ N) (j : Jx) (rest : Int) (o1 o2 : List Int) (hr : 0 ≤ rest ∧ rest ≤ 100) (ho : o1.length ≤ 2) (d1 : ∀ bR bM bP bS, Dn N j bR bM bP bS rest 1 5 0 3 o1) (d2 : ∀ bR bM bP bS, Dn N j bR bM bP bS rest 1 5 0 2 o2) : Ch (N - 2) j 0 rest 1 (o1 ++ o2) := by
  intro W xs a c HJ hx
  have HD1 : Hid (∀ bR bM bP bS, Dn N j bR bM bP bS rest 1 5 0 3 o1) := d1
  have HD2 : Hid (∀ bR bM bP bS, Dn N j bR bM bP bS rest 1 5 0 2 o2) := d2
  have HJ3 : Hid (∀ x y z : Obj, JS j xs a c (((W.alloc x).alloc y).alloc z)) := fun x y z => HJ.below ((((Below.refl _ _).alloc (Nat.le_refl _) x).alloc (by simp) y).alloc (by simp; omega) z)
  have f0 : ∀ x y z : Obj, (((W.alloc x).alloc y).alloc z).cell? ⟨j.bF, 0, none⟩ = some (.slice (some ⟨j.gf, 0, none⟩) 1 j.cf) := fun x y z => (HJ3.out x y z).F.cell 0
  have f1 : ∀ x y z : Obj, (((W.alloc x).alloc y).alloc z).cell? ⟨j.gf, 0, none⟩ = some (.slice (some ⟨j.g2, 0, none⟩) 2 2) := fun x y z => (HJ3.out x y z).fam 0 _ rfl
  have f2 : ∀ x y z : Obj, (((W.alloc x).alloc y).alloc z).cell? ⟨j.gf, 1, none⟩ = some (.int .i64 5) := fun x y z => (HJ3.out x y z).fam 1 _ rfl
  have f3 : ∀ x y z : Obj, (((W.alloc x).alloc y).alloc z).cell? ⟨j.gf, 2, none⟩ = some (.int .i64 1) := fun x y z => (HJ3.out x y z).fam 2 _ rfl
  have zc := HJ.lt.2.2.2.2.2.2.2
  have HJW : Hid (JS j xs a c W) := HJ
  clear HJ d1 d2
  go_enter Tryz.func76, Tryz.ntmps76
  go_wp2_with fail
  refine (power_is j.g2 5 _ (by decide) (by decide)).mono ?_
  rintro e w2 ⟨rfl, k2⟩
  have K2 : Hid (Below W.heap.size W w2) := ((((Below.refl _ _).alloc (Nat.le_refl _) _).alloc (by simp) _).alloc (by simp; omega) _).trans (k2.mono (by simp; omega))
  have z2 := k2.size
  simp at z2
  have HJ2 : Hid (JS j xs a c w2) := HJW.out.below K2.out
  have b0 : Hid (Cl W.heap.size [.int .i64 0] 3 w2) := (((Cl.new [.int .i64 0] 3 W).alloc _).alloc _).below k2
  have b1 : Hid (Cl (W.heap.size + 1) [.int .i64 rest] 3 w2) := by
    have h := ((Cl.new [.int .i64 rest] 3 (W.alloc (.cells #[.int .i64 0] 3))).alloc (.cells #[.int .i64 1] 3)).below k2
    rw [World.size_alloc] at h; exact h
  have b2 : Hid (Cl (W.heap.size + 1 + 1) [.int .i64 1] 3 w2) := by
    have h := (Cl.new [.int .i64 1] 3 ((W.alloc (.cells #[.int .i64 0] 3)).alloc (.cells #[.int .i64 rest] 3))).below k2
    rw [World.size_alloc, World.size_alloc] at h; exact h
  have g0 : ∀ x : Obj, (w2.alloc x).cell? ⟨j.bF, 0, none⟩ = some (.slice (some ⟨j.gf, 0, none⟩) 1 j.cf) := fun x => (HJ2.out.F.alloc x).cell 0
  have HJ4 : Hid (∀ x, JS j xs a c (w2.alloc x)) := fun x => HJ2.out.below ((Below.refl _ _).alloc (Nat.le_refl _) x)
  have g1 : ∀ x : Obj, (w2.alloc x).cell? ⟨j.gf, 0, none⟩ = some (.slice (some ⟨j.g2, 0, none⟩) 2 2) := fun x => (HJ4.out x).fam 0 _ rfl
  have g2 : ∀ x : Obj, (w2.alloc x).cell? ⟨j.gf, 1, none⟩ = some (.int .i64 5) := fun x => (HJ4.out x).fam 1 _ rfl
  have g3 : ∀ x : Obj, (w2.alloc x).cell? ⟨j.gf, 2, none⟩ = some (.int .i64 1) := fun x => (HJ4.out x).fam 2 _ rfl
  have g4 : ∀ x : Obj, (w2.alloc x).cell? ⟨W.heap.size, 0, none⟩ = some (.int .i64 0) := fun x => (b0.out.alloc x).cell 0
  clear k2 f0 f1 f2 f3 HJ3
  go_wp2_with fail
  refine (each_is j j.g2 3 2 5 0 rest 1 5 o1 o2 (W.heap.size + 1) (W.heap.size + 1 + 1) w2.heap.size W.heap.size (by decide) (by decide) N (HD1.out _ _ _ _) (HD2.out _ _ _ _) (fun _ _ _ _ h => h.c2) _ xs a c (HJ4.out _) (by omega) (b1.out.alloc _) (b2.out.alloc _) (Cl.new _ _ w2) (b0.out.alloc _) (HJW.out.loc (by omega)) (HJW.out.loc (by omega)) (HJW.out.loc (by omega)) (HJW.out.loc (by omega))).mono ?_
  rintro e w3 ⟨⟨v, rfl⟩, a', c', hj3, hf3⟩
  have HR : Hid (JS j (xs ++ (o1 ++ o2)) a' c' w3 ∧ Fr j a W a' w3) := ⟨by rw [← List.append_assoc]; exact hj3, (Fr.below a (K2.out.alloc K2.out.size _)).trans hf3⟩
  clear hj3 hf3 g0 g1 g2 g3 g4
  go_wp2
  go_end0
  exact ⟨⟨_, rfl⟩, a', c', HR.out⟩

theorem join_a {R M c at' : Int} (h : JOut [0, 3] [1, 5] R M c at') : R = 3 := by
  have l0 : MathC.jl [1, 5] 0 = 1 := rfl
  have l1 : MathC.jl [1, 5] 1 = 1 := by decide
  have l2 : MathC.jl [1, 5] 2 = 5 := by decide
  rcases h.cases with h1 | h1 | ⟨_, _, k, r, m, R', M', hk, hj, rfl, rfl, rfl, hc, ho⟩ | ⟨_, _, r, m, hj, rfl, rfl, rfl, rfl⟩
  · simp at h1
  · simp at h1
  · exfalso
    have hm := hj.lcm
    have hk3 : k = 0 ∨ k = 1 := by simp at hk; omega
    rcases hk3 with rfl | rfl
    all_goals
      first | rw [l0] at hm | rw [l1] at hm
      subst hm
      rcases ho.cases with ⟨_, _, _, h2⟩ | ⟨_, n, hn, n1, n2, ⟨_, _, _, h2⟩ | ⟨_, _, _, h2, h3⟩ | ⟨h2, _⟩⟩
      · simp [numB] at h2
      · have : n = 1 ∨ n = 5 := by simp at hn; omega
        rcases this with rfl | rfl <;> first | (simp at hn; done) | exact h2 ⟨_, (Int.one_mul _).symm⟩
      · have : n = 1 ∨ n = 5 := by simp at hn; omega
        rcases this with rfl | rfl <;> simp at h3
      · exact hc h2
  · have hm := hj.lcm
    simp only [List.length_cons, List.length_nil] at hm
    rw [l2] at hm
    subst hm
    have h1 := hj.hi
    have c0 := hj.cong 0 (by simp)
    have c1 := hj.cong 1 (by simp)
    simp at c0 c1
    omega

theorem join_b {R M c at' : Int} (h : JOut [0, 2] [1, 5] R M c at') : R = 2 := by
  have l0 : MathC.jl [1, 5] 0 = 1 := rfl
  have l1 : MathC.jl [1, 5] 1 = 1 := by decide
  have l2 : MathC.jl [1, 5] 2 = 5 := by decide
  rcases h.cases with h1 | h1 | ⟨_, _, k, r, m, R', M', hk, hj, rfl, rfl, rfl, hc, ho⟩ | ⟨_, _, r, m, hj, rfl, rfl, rfl, rfl⟩
  · simp at h1
  · simp at h1
  · exfalso
    have hm := hj.lcm
    have hk3 : k = 0 ∨ k = 1 := by simp at hk; omega
    rcases hk3 with rfl | rfl
    all_goals
      first | rw [l0] at hm | rw [l1] at hm
      subst hm
      rcases ho.cases with ⟨_, _, _, h2⟩ | ⟨_, n, hn, n1, n2, ⟨_, _, _, h2⟩ | ⟨_, _, _, h2, h3⟩ | ⟨h2, _⟩⟩
      · simp [numB] at h2
      · have : n = 1 ∨ n = 5 := by simp at hn; omega
        rcases this with rfl | rfl <;> first | (simp at hn; done) | exact h2 ⟨_, (Int.one_mul _).symm⟩
      · have : n = 1 ∨ n = 5 := by simp at hn; omega
        rcases this with rfl | rfl <;> simp at h3
      · exact hc h2
  · have hm := hj.lcm
    simp only [List.length_cons, List.length_nil] at hm
    rw [l2] at hm
    subst hm
    have h1 := hj.hi
    have c0 := hj.cong 0 (by simp)
    have c1 := hj.cong 1 (by simp)
    simp at c0 c1
    omega


theorem ch_all (j : Jx) : Ch 8 j 0 0 1 [3, 2] :=
  ch_zero 10 (by decide) j 0 [3] [2] (by decide) (by decide)
    (fun bR bM bP bS W xs a c => do_is j 0 0 1 5 3 3 5 [3] bR bM bP bS rfl (by decide) 10 (by decide) (ch_two j 3 5) (fun _ _ _ _ h => join_a h) W xs a c)
    (fun bR bM bP bS W xs a c => do_is j 0 0 1 5 2 2 5 [2] bR bM bP bS rfl (by decide) 10 (by decide) (ch_two j 2 5) (fun _ _ _ _ h => join_b h) W xs a c)

set_option maxHeartbeats 1000000 in
theorem joined_5 (gf g2 cf : Nat) (w : World) (hcf : 1 ≤ cf) (hgf : gf < w.heap.size) (hc : ∀ k v, (fam g2 5)[k]? = some v → w.cell? ⟨gf, k, none⟩ = some v) (h2 : Cl g2 [.int .i64 3, .int .i64 2] 3 w) :
    Calls Tryz.prog 47 #[.slice (some ⟨gf, 0, none⟩) 1 cf] w fun e w' => ∃ g cap, e = .returned (.slice (some ⟨g, 0, none⟩) 2 cap) ∧ w'.ownsRow w.heap.size 3 1 (.slice (some ⟨g, 0, none⟩) 2 cap) 2 (ints [3, 2]) ∧ Below w.heap.size w w' := by
  have HJ0 : Hid (∀ W3, W3 = ((w.alloc (.cells #[.slice (some ⟨gf, 0, none⟩) 1 cf] 69)).alloc (.cells #[.slice none 0 0] 34)).alloc (.cells #[(Jx.mk w.heap.size (w.heap.size + 1) (w.heap.size + 1 + 1) gf g2 g2 cf (w.heap.size + 1 + 1 + 1)).clo] 101) →
      JS (Jx.mk w.heap.size (w.heap.size + 1) (w.heap.size + 1 + 1) gf g2 g2 cf (w.heap.size + 1 + 1 + 1)) [] none 0 W3 ∧ Below w.heap.size w W3) := by
    rintro W3 rfl
    have k := (((Below.refl w.heap.size w).alloc (Nat.le_refl _) (.cells #[.slice (some ⟨gf, 0, none⟩) 1 cf] 69)).alloc (by simp) (.cells #[.slice none 0 0] 34)).alloc (by simp; omega) (.cells #[(Jx.mk w.heap.size (w.heap.size + 1) (w.heap.size + 1 + 1) gf g2 g2 cf (w.heap.size + 1 + 1 + 1)).clo] 101)
    have z2 := h2.lt
    refine ⟨⟨((Cl.new _ _ w).alloc _).alloc _, ?_, ?_, World.ownsRow_nil _ _ _ _, fun i v hv => (k.cell (p := ⟨gf, i, none⟩) hgf).trans (hc i v hv), h2.below k, h2.below k, ?_, ?_⟩, k⟩
    · have h := Cl.new [(Jx.mk w.heap.size (w.heap.size + 1) (w.heap.size + 1 + 1) gf g2 g2 cf (w.heap.size + 1 + 1 + 1)).clo] 101 ((w.alloc (.cells #[.slice (some ⟨gf, 0, none⟩) 1 cf] 69)).alloc (.cells #[.slice none 0 0] 34))
      rw [World.size_alloc, World.size_alloc] at h; exact h
    · have h := (Cl.new [.slice none 0 0] 34 (w.alloc (.cells #[.slice (some ⟨gf, 0, none⟩) 1 cf] 69))).alloc (.cells #[(Jx.mk w.heap.size (w.heap.size + 1) (w.heap.size + 1 + 1) gf g2 g2 cf (w.heap.size + 1 + 1 + 1)).clo] 101)
      rw [World.size_alloc] at h; exact h
    · simp; omega
    · simp; omega
  clear hc h2
  go_enter Tryz.func47, Tryz.ntmps47
  go_wp2_with fail
  obtain ⟨hj, hk⟩ := HJ0.out _ rfl
  refine (ch_all (Jx.mk w.heap.size (w.heap.size + 1) (w.heap.size + 1 + 1) gf g2 g2 cf (w.heap.size + 1 + 1 + 1)) _ [] none 0 hj (by decide)).mono ?_
  rintro e w2 ⟨⟨v, rfl⟩, a', c', hj2, hf2⟩
  obtain ⟨g, rfl⟩ : ∃ g, a' = some ⟨g, 0, none⟩ := by
    rcases hj2.row.2 with ⟨h, h'⟩ | ⟨g, _, _, h, _⟩
    · simp at h'
    · simp only [Value.slice.injEq] at h; exact ⟨g, h.1⟩
  have l0 : w2.cell? ⟨w.heap.size + 1, 0, none⟩ = some (.slice (some ⟨g, 0, none⟩) 2 c') := hj2.L.cell 0
  have HB : Hid (Below w.heap.size w w2) := by
    refine ⟨hf2.os.trans hk.os, hf2.tape.trans hk.tape, hf2.output.trans hk.output, Nat.le_trans hk.size hf2.size, fun k hk1 => (hf2.block k (Nat.lt_of_lt_of_le hk1 hk.size) ⟨?_, fun _ e => by cases e⟩).trans (hk.block k hk1)⟩
    show k ≠ w.heap.size + 1
    omega
  have HRow : Hid (w2.ownsRow w.heap.size 3 1 (.slice (some ⟨g, 0, none⟩) 2 c') 2 (ints [3, 2])) := by
    obtain ⟨h1, h2⟩ := hj2.row
    refine ⟨h1, ?_⟩
    rcases h2 with ⟨h, _⟩ | ⟨g', cap, cur, h3, h4, h5, h6⟩
    · cases h
    · exact .inr ⟨g', cap, cur, h3, by have : w.heap.size + 1 + 1 + 1 ≤ g' := h4; omega, h5, h6⟩
  clear hj hk hj2 hf2 HJ0
  go_wp2
  go_ret
  exact ⟨g, c', rfl, HRow.out, HB.out⟩

end Go.Proofs.YtoionlnbodfhlacGreatDoor.R5
