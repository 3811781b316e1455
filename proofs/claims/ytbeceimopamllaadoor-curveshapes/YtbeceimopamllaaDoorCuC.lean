/- The program: a curve's opposite and add. -/
import Derived.Test.YtbeceimopamllaaDoorCuB
set_option linter.unusedSimpArgs false
set_option linter.unusedVariables false
set_option maxRecDepth 100000
namespace Go.Proofs.YtbeceimopamllaaDoor
open Go.RowKit EC

theorem on_bd {P : Nat} {a b : Int} {q : Pn} (hc : Cv P a b) (h : On P a b q) : 0 ≤ q.x ∧ q.x < P ∧ 0 ≤ q.y ∧ q.y < P := by
  have := hc.p5
  rcases h with ⟨_, h1, h2⟩ | ⟨_, h1, h2, h3, h4, _⟩
  · rw [h1, h2]; omega
  · exact ⟨h1, h2, h3, h4⟩

theorem al2 (w : World) (o1 o2 : Obj) : Below w.heap.size w ((w.alloc o1).alloc o2) := (ala _ _).trans ((ala _ _).mono (by simp))
theorem al3 (w : World) (o1 o2 o3 : Obj) : Below w.heap.size w (((w.alloc o1).alloc o2).alloc o3) := (al2 _ _ _).trans ((ala _ _).mono (by simp; omega))
theorem al4 (w : World) (o1 o2 o3 o4 : Obj) : Below w.heap.size w ((((w.alloc o1).alloc o2).alloc o3).alloc o4) := (al3 _ _ _ _).trans ((ala _ _).mono (by simp; omega))

set_option maxHeartbeats 2000000 in
theorem opposite_any (P : Nat) (a b : Int) (q : Pn) (w : World) (hc : Cv P a b) (hq : On P a b q) :
    Calls Tryd.prog 46 #[Gv P a b, Pv q] w fun e w' => e = .returned (Pv (pneg P q)) ∧ Below w.heap.size w w' := by
  have hp := hc.p2
  have hp5 := hc.p5
  obtain ⟨x0, x1, y0, y1⟩ := on_bd hc hq
  obtain ⟨x, y, f⟩ := q
  have HL : Hid (∀ w, Calls Tryd.prog 45 #[.int .i64 (-y), .int .i64 P] w fun e w' => e = .returned (.int .i64 ((-y) % (P : Int))) ∧ w' = w) := fun w => left_any (-y) P w (by simp only at y0 y1; omega) (by omega) (by omega)
  unfold pneg
  simp only at x0 x1 y0 y1 HL ⊢
  obtain ⟨Y, hY⟩ : ∃ Y, (-y) % (P : Int) = Y := ⟨_, rfl⟩
  rw [hY] at HL ⊢
  clear hc hq hY
  unfold Gv Pv
  go_enter Tryd.func46, Tryd.ntmps46
  go_wp2_with fail
  refine (HL.out _).mono ?_
  rintro e w2 ⟨rfl, hw2⟩
  rw [hw2]
  clear hw2
  go_wp2
  refine bodyPost_ret (v := .agg #[.int .i64 x, .int .i64 Y, .bool f]) (by simp [results, Tryd.results46, go_sem]) rfl ⟨rfl, ?_⟩
  exact al3 _ _ _ _

/-- What add holds in memory. -/
structure Aq (h P : Nat) (a b : Int) (q r : Pn) (w W : World) : Prop where
  g : Cl h (Gl P a b) 52 W
  q : Cl (h + 1) (Pl q) 30 W
  r : Cl (h + 2) (Pl r) 30 W
  o : Cl (h + 3) [.int .i64 0, .int .i64 0, .bool false] 30 W
  k : Below h w W
theorem Aq.below {h P : Nat} {a b : Int} {q r : Pn} {w W W' : World} (x : Aq h P a b q r w W) (c : Below W.heap.size W W') : Aq h P a b q r w W' :=
  ⟨x.g.below c, x.q.below c, x.r.below c, x.o.below c, x.k.trans (c.mono (by have := x.g.lt; omega))⟩
theorem Aq.new (P : Nat) (a b : Int) (q r : Pn) (w : World) : Aq w.heap.size P a b q r w
    ((((w.alloc (.cells #[.int .i64 P, .int .i64 a, .int .i64 b] 52)).alloc (.cells #[.int .i64 q.x, .int .i64 q.y, .bool q.far] 30)).alloc (.cells #[.int .i64 r.x, .int .i64 r.y, .bool r.far] 30)).alloc (.cells #[.int .i64 0, .int .i64 0, .bool false] 30)) :=
  ⟨(((Cl.new (Gl P a b) _ w).alloc _).alloc _).alloc _, ((cnew _ (Pl q) _ _ (by simp)).alloc _).alloc _, (cnew _ (Pl r) _ _ (by simp)).alloc _, cnew _ [.int .i64 0, .int .i64 0, .bool false] _ _ (by simp), al4 _ _ _ _ _⟩

set_option maxHeartbeats 2000000 in
theorem cadd_any (P : Nat) (a b : Int) (q r : Pn) (w : World) (hc : Cv P a b) (hq : On P a b q) (hr : On P a b r) :
    Calls Tryd.prog 29 #[Gv P a b, Pv q, Pv r] w fun e w' => e = .returned (Pv (padd P a q r)) ∧ Below w.heap.size w w' := by
  have hp := hc.p2
  have hp5 := hc.p5
  obtain ⟨x0, x1, y0, y1⟩ := on_bd hc hq
  obtain ⟨x0', x1', y0', y1'⟩ := on_bd hc hr
  by_cases fq : q.far = true
  · rw [padd, if_pos fq]
    obtain ⟨x, y, f⟩ := q
    simp only at fq x0 x1 y0 y1
    subst fq
    clear hq hr hc
    unfold Gv Pv
    go_enter Tryd.func29, Tryd.ntmps29
    go_wp2
    exact bodyPost_ret (v := .agg #[.int .i64 r.x, .int .i64 r.y, .bool r.far]) (by simp [results, Tryd.results29, go_sem]) rfl ⟨rfl, al4 _ _ _ _ _⟩
  have fq' : q.far = false := by simpa using fq
  by_cases fr : r.far = true
  · rw [padd, if_neg fq, if_pos fr]
    obtain ⟨x, y, f⟩ := q
    obtain ⟨x', y', f'⟩ := r
    simp only at fq' fr x0 x1 y0 y1 x0' x1' y0' y1'
    subst fq'
    subst fr
    clear hq hr hc fq
    unfold Gv Pv
    go_enter Tryd.func29, Tryd.ntmps29
    go_wp2
    exact bodyPost_ret (v := .agg #[.int .i64 x, .int .i64 y, .bool false]) (by simp [results, Tryd.results29, go_sem]) rfl ⟨rfl, al4 _ _ _ _ _⟩
  have fr' : r.far = false := by simpa using fr
  by_cases ho : q.x = r.x ∧ (q.y + r.y) % (P : Int) = 0
  · rw [padd, if_neg fq, if_neg fr, if_pos ho]
    obtain ⟨x, y, f⟩ := q
    obtain ⟨x', y', f'⟩ := r
    simp only at fq' fr' x0 x1 y0 y1 x0' x1' y0' y1' ho
    obtain ⟨rfl, ho⟩ := ho
    subst fq'
    subst fr'
    have hP0 : ((P : Int) == 0) = false := beq_eq_false_iff_ne.2 (by omega)
    clear hq hr hc fq fr
    unfold farP
    unfold Gv Pv
    go_enter Tryd.func29, Tryd.ntmps29
    go_wp2
    exact bodyPost_ret (v := .agg #[.int .i64 0, .int .i64 0, .bool true]) (by simp [results, Tryd.results29, go_sem]) rfl ⟨rfl, al4 _ _ _ _ _⟩
  have HSl : Hid (∀ w, Calls Tryd.prog 44 #[Gv P a b, Pv q, Pv r] w fun e w' => e = .returned (.int .i64 (slo P a q r)) ∧ Below w.heap.size w w') := by
    intro w
    by_cases hx : q.x = r.x
    · have e := on_same hc hq hr fq' fr' hx ho
      subst e
      rw [slo, if_pos rfl]
      have := slope_same P a b q.x q.y w hc x0 x1 y0 y1 (two_y hc (fun e => ho ⟨rfl, e⟩))
      obtain ⟨x, y, f⟩ := q
      simp only at fq'
      subst fq'
      exact this
    · rw [slo, if_neg hx]
      have := slope_other P a b q.x q.y r.x r.y w hc x0 x1 y0 y1 x0' x1' y0' y1' hx
      obtain ⟨x, y, f⟩ := q
      obtain ⟨x', y', f'⟩ := r
      simp only at fq' fr'
      subst fq'
      subst fr'
      exact this
  have hs0 : 0 ≤ slo P a q r ∧ slo P a q r < P := by
    unfold slo
    split
    · exact ⟨Int.emod_nonneg _ (by omega), Int.emod_lt_of_pos _ (by omega)⟩
    · exact ⟨Int.emod_nonneg _ (by omega), Int.emod_lt_of_pos _ (by omega)⟩
  rw [padd, if_neg fq, if_neg fr, if_neg ho]
  obtain ⟨K, hK⟩ : ∃ K, slo P a q r = K := ⟨_, rfl⟩
  rw [hK] at HSl hs0 ⊢
  obtain ⟨k0, k1⟩ := hs0
  have ho' : ¬ (q.x = r.x) ∨ (q.y + r.y) % (P : Int) ≠ 0 := by
    by_cases hx : q.x = r.x
    · right; intro e; exact ho ⟨hx, e⟩
    · left; exact hx
  obtain ⟨x, y, f⟩ := q
  obtain ⟨x', y', f'⟩ := r
  simp only at fq' fr' x0 x1 y0 y1 x0' x1' y0' y1' ho'
  subst fq'
  subst fr'
  unfold padK
  simp only
  obtain ⟨KK, hKK⟩ : ∃ t, K * K = t := ⟨_, rfl⟩
  have b1 := pos_bd k0 (show K ≤ 2000 by omega) k0 (show K ≤ 2000 by omega)
  rw [hKK] at b1 ⊢
  have HL1 : Hid (∀ w, Calls Tryd.prog 45 #[.int .i64 (KK - x - x'), .int .i64 P] w fun e w' => e = .returned (.int .i64 ((KK - x - x') % (P : Int))) ∧ w' = w) := fun w => left_any _ P w (by omega) (by omega) (by omega)
  have r0 := Int.emod_nonneg (KK - x - x') (show (P : Int) ≠ 0 by omega)
  have r1 := Int.emod_lt_of_pos (KK - x - x') (show 0 < (P : Int) by omega)
  obtain ⟨X, hX⟩ : ∃ X, (KK - x - x') % (P : Int) = X := ⟨_, rfl⟩
  rw [hX] at HL1 r0 r1 ⊢
  obtain ⟨M, hM⟩ : ∃ M, K * (x - X) = M := ⟨_, rfl⟩
  have b2 := abs_bd (M := 2000) (N := 2000) (show -2000 ≤ K by omega) (by omega) (show -2000 ≤ x - X by omega) (by omega)
  rw [hM] at b2 ⊢
  have HL2 : Hid (∀ w, Calls Tryd.prog 45 #[.int .i64 (M - y), .int .i64 P] w fun e w' => e = .returned (.int .i64 ((M - y) % (P : Int))) ∧ w' = w) := fun w => left_any _ P w (by omega) (by omega) (by omega)
  obtain ⟨Y, hY⟩ : ∃ Y, (M - y) % (P : Int) = Y := ⟨_, rfl⟩
  rw [hY] at HL2 ⊢
  have hP0 : ((P : Int) == 0) = false := beq_eq_false_iff_ne.2 (by omega)
  have A0 := Aq.new P a b ⟨x, y, false⟩ ⟨x', y', false⟩ w
  have t3 : ∃ t, (x == x') = t ∧ (t = true → ((y + y') % (P : Int) == 0) = false) := by
    rcases ho' with h | h
    · exact ⟨false, beq_eq_false_iff_ne.2 h, fun h => by cases h⟩
    · exact ⟨(x == x'), rfl, fun _ => beq_eq_false_iff_ne.2 h⟩
  obtain ⟨t, t1, t2⟩ := t3
  clear hq hr hc fq fr ho hK hX hY ho'
  unfold Gv Pv
  unfold Gv Pv at HSl
  cases t
  · clear t2
    go_enter Tryd.func29, Tryd.ntmps29
    go_wp2_with fail
    refine (HSl.out _).mono ?_
    rintro e w1 ⟨rfl, c1⟩
    have A1 := A0.below c1
    have HA : Hid (Aq w.heap.size P a b _ _ w w1) := A1
    have g0 : w1.cell? ⟨w.heap.size, 0, none⟩ = some (.int .i64 P) := A1.g.cell 0
    have q0 : w1.cell? ⟨w.heap.size + 1, 0, none⟩ = some (.int .i64 x) := A1.q.cell 0
    have q1 : w1.cell? ⟨w.heap.size + 1, 1, none⟩ = some (.int .i64 y) := A1.q.cell 1
    have s0 : w1.cell? ⟨w.heap.size + 2, 0, none⟩ = some (.int .i64 _) := A1.r.cell 0
    have o0 : w1.cell? ⟨w.heap.size + 3, 0, none⟩ = some (.int .i64 0) := A1.o.cell 0
    have o1 : w1.cell? ⟨w.heap.size + 3, 1, none⟩ = some (.int .i64 0) := A1.o.cell 1
    have o2 : w1.cell? ⟨w.heap.size + 3, 2, none⟩ = some (.bool false) := A1.o.cell 2
    have f0 := A1.o.frozen 0
    have f1 := A1.o.frozen 1
    have f2 := A1.o.frozen 2
    clear A0 A1 c1 HSl
    go_wp2_with fail
    refine (HL1.out _).mono ?_
    rintro e w2 ⟨rfl, hw2⟩
    rw [hw2]
    clear hw2 w2
    go_wp2_with fail
    refine (HL2.out _).mono ?_
    rintro e w2 ⟨rfl, hw2⟩
    rw [hw2]
    clear hw2 w2
    go_wp2
    have Z := ((HA.out.o.set 0 (.int .i64 X)).set 1 (.int .i64 Y)).set 2 (.bool false)
    have z0 := Z.cell 0
    have z1 := Z.cell 1
    have z2 := Z.cell 2
    simp at z0 z1 z2
    refine bodyPost_ret (v := .agg #[.int .i64 X, .int .i64 Y, .bool false]) (by simp [results, Tryd.results29, go_sem, z0, z1, z2]) rfl ⟨rfl, ?_⟩
    exact ((HA.out.k.setCell (by simp; omega) _).setCell (by simp; omega) _).setCell (by simp; omega) _
  · have t2 := t2 rfl
    have t1' : x = x' := by simpa using t1
    subst t1'
    clear t1
    go_enter Tryd.func29, Tryd.ntmps29
    go_wp2_with fail
    refine (HSl.out _).mono ?_
    rintro e w1 ⟨rfl, c1⟩
    have A1 := A0.below c1
    have HA : Hid (Aq w.heap.size P a b _ _ w w1) := A1
    have g0 : w1.cell? ⟨w.heap.size, 0, none⟩ = some (.int .i64 P) := A1.g.cell 0
    have q0 : w1.cell? ⟨w.heap.size + 1, 0, none⟩ = some (.int .i64 x) := A1.q.cell 0
    have q1 : w1.cell? ⟨w.heap.size + 1, 1, none⟩ = some (.int .i64 y) := A1.q.cell 1
    have s0 : w1.cell? ⟨w.heap.size + 2, 0, none⟩ = some (.int .i64 _) := A1.r.cell 0
    have o0 : w1.cell? ⟨w.heap.size + 3, 0, none⟩ = some (.int .i64 0) := A1.o.cell 0
    have o1 : w1.cell? ⟨w.heap.size + 3, 1, none⟩ = some (.int .i64 0) := A1.o.cell 1
    have o2 : w1.cell? ⟨w.heap.size + 3, 2, none⟩ = some (.bool false) := A1.o.cell 2
    have f0 := A1.o.frozen 0
    have f1 := A1.o.frozen 1
    have f2 := A1.o.frozen 2
    clear A0 A1 c1 HSl
    go_wp2_with fail
    refine (HL1.out _).mono ?_
    rintro e w2 ⟨rfl, hw2⟩
    rw [hw2]
    clear hw2 w2
    go_wp2_with fail
    refine (HL2.out _).mono ?_
    rintro e w2 ⟨rfl, hw2⟩
    rw [hw2]
    clear hw2 w2
    go_wp2
    have Z := ((HA.out.o.set 0 (.int .i64 X)).set 1 (.int .i64 Y)).set 2 (.bool false)
    have z0 := Z.cell 0
    have z1 := Z.cell 1
    have z2 := Z.cell 2
    simp at z0 z1 z2
    refine bodyPost_ret (v := .agg #[.int .i64 X, .int .i64 Y, .bool false]) (by simp [results, Tryd.results29, go_sem, z0, z1, z2]) rfl ⟨rfl, ?_⟩
    exact ((HA.out.k.setCell (by simp; omega) _).setCell (by simp; omega) _).setCell (by simp; omega) _

end Go.Proofs.YtbeceimopamllaaDoor
