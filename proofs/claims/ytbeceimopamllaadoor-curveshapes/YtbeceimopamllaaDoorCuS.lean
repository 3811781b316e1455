/- The reference: Added, CurveOrder; the law's offCurve. -/
import Derived.Test.YtbeceimopamllaaDoorCuR
import Derived.Test.YtbeceimopamllaaDoorCuD
set_option linter.unusedSimpArgs false
set_option linter.unusedVariables false
set_option maxRecDepth 100000
namespace Go.Proofs.YtbeceimopamllaaDoor
open Go.RowKit EC

/-- What Added holds in memory. -/
structure Zq (h : Nat) (q r : Pn) (w W : World) : Prop where
  q : Cl h (Pl q) 30 W
  r : Cl (h + 1) (Pl r) 30 W
  o : Cl (h + 2) [.int .i64 0, .int .i64 0, .bool false] 30 W
  k : Below h w W
theorem Zq.below {h : Nat} {q r : Pn} {w W W' : World} (x : Zq h q r w W) (c : Below W.heap.size W W') : Zq h q r w W' :=
  ⟨x.q.below c, x.r.below c, x.o.below c, x.k.trans (c.mono (by have := x.q.lt; omega))⟩
theorem Zq.new (q r : Pn) (w : World) : Zq w.heap.size q r w
    (((w.alloc (.cells #[.int .i64 q.x, .int .i64 q.y, .bool q.far] 30)).alloc (.cells #[.int .i64 r.x, .int .i64 r.y, .bool r.far] 30)).alloc (.cells #[.int .i64 0, .int .i64 0, .bool false] 30)) :=
  ⟨((Cl.new (Pl q) _ w).alloc _).alloc _, (cnew _ (Pl r) _ _ (by simp)).alloc _, cnew _ [.int .i64 0, .int .i64 0, .bool false] _ _ (by simp), al3 _ _ _ _⟩

set_option maxHeartbeats 2000000 in
theorem Added_any (P : Nat) (a b : Int) (q r : Pn) (w : World) (hc : Cv P a b) (hq : On P a b q) (hr : On P a b r) :
    Calls Tryd.prog 16 #[.int .i64 P, .int .i64 a, Pv q, Pv r] w fun e w' => e = .returned (Pv (padd P a q r)) ∧ Below w.heap.size w w' := by
  have hp := hc.p2
  have hp5 := hc.p5
  have ha0 := hc.a0
  have ha1 := hc.a1
  obtain ⟨x0, x1, y0, y1⟩ := on_bd hc hq
  obtain ⟨x0', x1', y0', y1'⟩ := on_bd hc hr
  by_cases fq : q.far = true
  · rw [padd, if_pos fq]
    obtain ⟨x, y, f⟩ := q
    simp only at fq x0 x1 y0 y1
    subst fq
    clear hq hr hc
    unfold Pv
    go_enter Tryd.func16, Tryd.ntmps16
    go_wp2
    exact bodyPost_ret (v := .agg #[.int .i64 r.x, .int .i64 r.y, .bool r.far]) (by simp [results, Tryd.results16, go_sem]) rfl ⟨rfl, al3 _ _ _ _⟩
  have fq' : q.far = false := by simpa using fq
  by_cases fr : r.far = true
  · rw [padd, if_neg fq, if_pos fr]
    obtain ⟨x, y, f⟩ := q
    obtain ⟨x', y', f'⟩ := r
    simp only at fq' fr x0 x1 y0 y1 x0' x1' y0' y1'
    subst fq'
    subst fr
    clear hq hr hc fq
    unfold Pv
    go_enter Tryd.func16, Tryd.ntmps16
    go_wp2
    exact bodyPost_ret (v := .agg #[.int .i64 x, .int .i64 y, .bool false]) (by simp [results, Tryd.results16, go_sem]) rfl ⟨rfl, al3 _ _ _ _⟩
  have fr' : r.far = false := by simpa using fr
  have HLy : Hid (∀ w, Calls Tryd.prog 22 #[.int .i64 (q.y + r.y), .int .i64 P] w fun e w' => e = .returned (.int .i64 ((q.y + r.y) % (P : Int))) ∧ w' = w) := fun w => refLeft_any _ P w (by omega) (by omega) (by omega)
  by_cases ho : q.x = r.x ∧ (q.y + r.y) % (P : Int) = 0
  · rw [padd, if_neg fq, if_neg fr, if_pos ho]
    obtain ⟨x, y, f⟩ := q
    obtain ⟨x', y', f'⟩ := r
    simp only at fq' fr' x0 x1 y0 y1 x0' x1' y0' y1' ho HLy
    obtain ⟨rfl, ho⟩ := ho
    subst fq'
    subst fr'
    rw [ho] at HLy
    clear hq hr hc fq fr ho
    unfold farP Pv
    go_enter Tryd.func16, Tryd.ntmps16
    go_wp2_with fail
    refine (HLy.out _).mono ?_
    rintro e w1 ⟨rfl, hw1⟩
    rw [hw1]
    clear hw1 w1
    go_wp2
    exact bodyPost_ret (v := .agg #[.int .i64 0, .int .i64 0, .bool true]) (by simp [results, Tryd.results16, go_sem]) rfl ⟨rfl, al3 _ _ _ _⟩
  have hs0 : 0 ≤ slo P a q r ∧ slo P a q r < P := by
    unfold slo
    split
    · exact ⟨Int.emod_nonneg _ (by omega), Int.emod_lt_of_pos _ (by omega)⟩
    · exact ⟨Int.emod_nonneg _ (by omega), Int.emod_lt_of_pos _ (by omega)⟩
  have hsl : (q.x = r.x → slo P a q r = ((3 * q.x * q.x + a) * iv P (2 * q.y)) % (P : Int)) ∧ (q.x ≠ r.x → slo P a q r = ((r.y - q.y) * iv P (r.x - q.x)) % (P : Int)) := by
    unfold slo
    exact ⟨fun h => by rw [if_pos h], fun h => by rw [if_neg h]⟩
  rw [padd, if_neg fq, if_neg fr, if_neg ho]
  obtain ⟨K, hK⟩ : ∃ K, slo P a q r = K := ⟨_, rfl⟩
  rw [hK] at hs0 hsl ⊢
  obtain ⟨k0, k1⟩ := hs0
  obtain ⟨x, y, f⟩ := q
  obtain ⟨x', y', f'⟩ := r
  simp only at fq' fr' x0 x1 y0 y1 x0' x1' y0' y1' hsl ho HLy
  subst fq'
  subst fr'
  unfold padK
  simp only
  obtain ⟨KK, hKK⟩ : ∃ t, K * K = t := ⟨_, rfl⟩
  have b1 := pos_bd k0 (show K ≤ 2000 by omega) k0 (show K ≤ 2000 by omega)
  rw [hKK] at b1 ⊢
  have HL1 : Hid (∀ w, Calls Tryd.prog 22 #[.int .i64 (KK - x - x'), .int .i64 P] w fun e w' => e = .returned (.int .i64 ((KK - x - x') % (P : Int))) ∧ w' = w) := fun w => refLeft_any _ P w (by omega) (by omega) (by omega)
  have r0 := Int.emod_nonneg (KK - x - x') (show (P : Int) ≠ 0 by omega)
  have r1 := Int.emod_lt_of_pos (KK - x - x') (show 0 < (P : Int) by omega)
  obtain ⟨X, hX⟩ : ∃ X, (KK - x - x') % (P : Int) = X := ⟨_, rfl⟩
  rw [hX] at HL1 r0 r1 ⊢
  obtain ⟨M, hM⟩ : ∃ M, K * (X - x) = M := ⟨_, rfl⟩
  have b2 := abs_bd (M := 2000) (N := 2000) (show -2000 ≤ K by omega) (by omega) (show -2000 ≤ X - x by omega) (by omega)
  rw [hM] at b2
  have hM2 : K * (x - X) - y = -(y + M) := by rw [← hM]; grind
  rw [hM2]
  have HL2 : Hid (∀ w, Calls Tryd.prog 22 #[.int .i64 (-(y + M)), .int .i64 P] w fun e w' => e = .returned (.int .i64 ((-(y + M)) % (P : Int))) ∧ w' = w) := fun w => refLeft_any _ P w (by omega) (by omega) (by omega)
  obtain ⟨Y, hY⟩ : ∃ Y, (-(y + M)) % (P : Int) = Y := ⟨_, rfl⟩
  rw [hY] at HL2 ⊢
  have A0 := Zq.new ⟨x, y, false⟩ ⟨x', y', false⟩ w
  by_cases hx : x = x'
  · have hK2 := hsl.1 hx
    have hy0 : (y + y') % (P : Int) ≠ 0 := fun e => ho ⟨hx, e⟩
    have hyb : ((y + y') % (P : Int) == 0) = false := beq_eq_false_iff_ne.2 hy0
    subst hx
    have HSl : Hid (∀ w, Calls Tryd.prog 30 #[.int .i64 (3 * x * x + a), .int .i64 (2 * y), .int .i64 P] w fun e w' => e = .returned (.int .i64 K) ∧ Below w.heap.size w w') := fun w => by
      have e1 := pos_bd x0 (show x ≤ 2000 by omega) x0 (show x ≤ 2000 by omega)
      have e0 : 3 * x * x = 3 * (x * x) := by rw [Int.mul_assoc]
      have := over_any P (3 * x * x + a) (2 * y) w hp5 hp (by omega) (by omega)
      rw [← hK2] at this
      exact this
    have e1 := pos_bd x0 (show x ≤ 2000 by omega) x0 (show x ≤ 2000 by omega)
    have e0 : 3 * x * x = 3 * (x * x) := by rw [Int.mul_assoc]
    obtain ⟨X3, hX3⟩ : ∃ t, 3 * x * x = t := ⟨_, rfl⟩
    have e2 : 0 ≤ X3 ∧ X3 ≤ 12000000 := by rw [← hX3, e0]; omega
    rw [hX3] at HSl
    obtain ⟨Z0, hZ0⟩ : ∃ t, (y + y') % (P : Int) = t := ⟨_, rfl⟩
    rw [hZ0] at HLy hyb
    clear hq hr hc fq fr ho hK hX hY hsl hK2 hy0 e0 e1 hZ0 hM2
    unfold Pv
    go_enter Tryd.func16, Tryd.ntmps16
    go_wp2_with fail
    refine (HLy.out _).mono ?_
    rintro e w1 ⟨rfl, hw1⟩
    rw [hw1]
    clear hw1 w1
    go_wp2_with fail
    refine (HSl.out _).mono ?_
    rintro e w1 ⟨rfl, c1⟩
    have A1 := A0.below c1
    have HA : Hid (Zq w.heap.size _ _ w w1) := A1
    have q0 : w1.cell? ⟨w.heap.size, 0, none⟩ = some (.int .i64 x) := A1.q.cell 0
    have q1 : w1.cell? ⟨w.heap.size, 1, none⟩ = some (.int .i64 y) := A1.q.cell 1
    have s0 : w1.cell? ⟨w.heap.size + 1, 0, none⟩ = some (.int .i64 _) := A1.r.cell 0
    have o0 : w1.cell? ⟨w.heap.size + 2, 0, none⟩ = some (.int .i64 0) := A1.o.cell 0
    have o1 : w1.cell? ⟨w.heap.size + 2, 1, none⟩ = some (.int .i64 0) := A1.o.cell 1
    have o2 : w1.cell? ⟨w.heap.size + 2, 2, none⟩ = some (.bool false) := A1.o.cell 2
    have f0 := A1.o.frozen 0
    have f1 := A1.o.frozen 1
    have f2 := A1.o.frozen 2
    clear A0 A1 c1 HSl
    go_wp2_with fail
    refine (HL1.out _).mono ?_
    rintro e w2 ⟨rfl, hw2⟩
    rw [hw2]
    clear hw2 w2
    go_wp2_with fail
    refine (HL2.out _).mono ?_
    rintro e w2 ⟨rfl, hw2⟩
    rw [hw2]
    clear hw2 w2
    go_wp2
    have Z := ((HA.out.o.set 0 (.int .i64 X)).set 1 (.int .i64 Y)).set 2 (.bool false)
    have z0 := Z.cell 0
    have z1 := Z.cell 1
    have z2 := Z.cell 2
    simp at z0 z1 z2
    refine bodyPost_ret (v := .agg #[.int .i64 X, .int .i64 Y, .bool false]) (by simp [results, Tryd.results16, go_sem, z0, z1, z2]) rfl ⟨rfl, ?_⟩
    exact ((HA.out.k.setCell (by simp; omega) _).setCell (by simp; omega) _).setCell (by simp; omega) _
  · have hK2 := hsl.2 hx
    have t1 : (x == x') = false := beq_eq_false_iff_ne.2 hx
    have HSl : Hid (∀ w, Calls Tryd.prog 30 #[.int .i64 (y' - y), .int .i64 (x' - x), .int .i64 P] w fun e w' => e = .returned (.int .i64 K) ∧ Below w.heap.size w w') := fun w => by
      have := over_any P (y' - y) (x' - x) w hp5 hp (by omega) (by omega)
      rw [← hK2] at this
      exact this
    clear hq hr hc fq fr ho hK hX hY hsl hK2 hx hM2 HLy
    unfold Pv
    go_enter Tryd.func16, Tryd.ntmps16
    go_wp2_with fail
    refine (HSl.out _).mono ?_
    rintro e w1 ⟨rfl, c1⟩
    have A1 := A0.below c1
    have HA : Hid (Zq w.heap.size _ _ w w1) := A1
    have q0 : w1.cell? ⟨w.heap.size, 0, none⟩ = some (.int .i64 x) := A1.q.cell 0
    have q1 : w1.cell? ⟨w.heap.size, 1, none⟩ = some (.int .i64 y) := A1.q.cell 1
    have s0 : w1.cell? ⟨w.heap.size + 1, 0, none⟩ = some (.int .i64 _) := A1.r.cell 0
    have o0 : w1.cell? ⟨w.heap.size + 2, 0, none⟩ = some (.int .i64 0) := A1.o.cell 0
    have o1 : w1.cell? ⟨w.heap.size + 2, 1, none⟩ = some (.int .i64 0) := A1.o.cell 1
    have o2 : w1.cell? ⟨w.heap.size + 2, 2, none⟩ = some (.bool false) := A1.o.cell 2
    have f0 := A1.o.frozen 0
    have f1 := A1.o.frozen 1
    have f2 := A1.o.frozen 2
    clear A0 A1 c1 HSl
    go_wp2_with fail
    refine (HL1.out _).mono ?_
    rintro e w2 ⟨rfl, hw2⟩
    rw [hw2]
    clear hw2 w2
    go_wp2_with fail
    refine (HL2.out _).mono ?_
    rintro e w2 ⟨rfl, hw2⟩
    rw [hw2]
    clear hw2 w2
    go_wp2
    have Z := ((HA.out.o.set 0 (.int .i64 X)).set 1 (.int .i64 Y)).set 2 (.bool false)
    have z0 := Z.cell 0
    have z1 := Z.cell 1
    have z2 := Z.cell 2
    simp at z0 z1 z2
    refine bodyPost_ret (v := .agg #[.int .i64 X, .int .i64 Y, .bool false]) (by simp [results, Tryd.results16, go_sem, z0, z1, z2]) rfl ⟨rfl, ?_⟩
    exact ((HA.out.k.setCell (by simp; omega) _).setCell (by simp; omega) _).setCell (by simp; omega) _

/-- What CurveOrder holds in memory: the point, and the sum so far. -/
structure Ow (h bb : Nat) (q s : Pn) (w W : World) : Prop where
  q : Cl h (Pl q) 30 W
  s : Cl bb (Pl s) 30 W
  ne : h < bb
  k : Below h w W
theorem Ow.below {h bb : Nat} {q s : Pn} {w W W' : World} (x : Ow h bb q s w W) (c : Below W.heap.size W W') : Ow h bb q s w W' :=
  ⟨x.q.below c, x.s.below c, x.ne, x.k.trans (c.mono (by have := x.q.lt; omega))⟩
theorem Ow.fresh {h bb : Nat} {q s : Pn} {w W : World} (x : Ow h bb q s w W) (t : Pn) : Ow h W.heap.size q t w (W.alloc (.cells #[.int .i64 t.x, .int .i64 t.y, .bool t.far] 30)) :=
  ⟨x.q.alloc _, Cl.new (Pl t) _ W, x.q.lt, x.k.alloc (by have := x.q.lt; omega) _⟩
theorem Ow.set {h bb : Nat} {q s : Pn} {w W : World} (x : Ow h bb q s w W) (t : Pn) :
    Ow h bb q t w (((W.setCell ⟨bb, 0, none⟩ (.int .i64 t.x)).setCell ⟨bb, 1, none⟩ (.int .i64 t.y)).setCell ⟨bb, 2, none⟩ (.bool t.far)) := by
  have hn := x.ne
  refine ⟨?_, ((x.s.set 0 _).set 1 _).set 2 _, hn, ?_⟩
  · exact ((x.q.other (by show h ≠ bb; omega) _).other (by show h ≠ bb; omega) _).other (by show h ≠ bb; omega) _
  · exact ((x.k.setCell (by show h ≤ bb; omega) _).setCell (by show h ≤ bb; omega) _).setCell (by show h ≤ bb; omega) _

set_option maxHeartbeats 2000000 in
theorem CurveOrder_any (P : Nat) (a b : Int) (q : Pn) (k : Nat) (w : World) (hc : Cv P a b) (hq : On P a b q) (hk : Od P a q k) (hk2 : k ≤ 4000001) :
    Calls Tryd.prog 21 #[.int .i64 P, .int .i64 a, Pv q] w fun e w' => e = .returned (.int .i64 k) ∧ Below w.heap.size w w' := by
  haveI := hc.nz
  have HC : Hid (Cv P a b ∧ On P a b q ∧ Od P a q k) := ⟨hc, hq, hk⟩
  have hk1 := hk.1
  have HO0 : Hid (Ow w.heap.size (w.heap.size + 1) q (EC.mu P a q 1) w ((w.alloc (.cells #[.int .i64 q.x, .int .i64 q.y, .bool q.far] 30)).alloc (.cells #[.int .i64 q.x, .int .i64 q.y, .bool q.far] 30))) := by
    show Ow _ _ _ _ _ _
    rw [mu_one]
    exact ⟨(Cl.new (Pl q) _ w).alloc _, cnew _ (Pl q) _ _ (by simp), by omega, al2 _ _ _⟩
  clear hc hq hk
  unfold Pv
  go_enter Tryd.func21, Tryd.ntmps21
  go_wp2
  go_loopw [7, 8] (fun nv bv wx => ∃ (j bb : Nat), 1 ≤ j ∧ j ≤ k ∧ nv = .int .i64 j ∧ bv = .pointer (some ⟨bb, 0, none⟩) ∧ Hid (Ow w.heap.size bb q (EC.mu P a q j) w wx)) (fun nv _ _ => k - (intOf nv).toNat)
  case atStart => exact ⟨1, w.heap.size + 1, by omega, by omega, rfl, rfl, HO0.out⟩
  case round =>
    obtain ⟨j, bb, j1, jk, rfl, rfl, HO⟩ := hrel
    clear HO0
    have hon : On P a b (EC.mu P a q j) := mu_on HC.out.1 HC.out.2.1 j
    have HA : Hid (∀ w, Calls Tryd.prog 16 #[.int .i64 P, .int .i64 a, Pv (EC.mu P a q j), Pv q] w fun e w' => e = .returned (Pv (EC.mu P a q (j + 1))) ∧ Below w.heap.size w w') := fun w => Added_any P a b _ q w HC.out.1 hon HC.out.2.1
    have hfar : (j = k ∧ (EC.mu P a q j).far = true) ∨ (j < k ∧ (EC.mu P a q j).far = false) := by
      by_cases e : j = k
      · left; subst e; exact ⟨rfl, by rw [HC.out.2.2.2.1]; rfl⟩
      · right
        refine ⟨by omega, ?_⟩
        cases hf : (EC.mu P a q j).far
        · rfl
        · exact absurd (far_of hon hf) (HC.out.2.2.2.2 j (by omega) (by omega))
    clear hon
    obtain ⟨s, hs⟩ : ∃ s, EC.mu P a q j = s := ⟨_, rfl⟩
    obtain ⟨t, ht⟩ : ∃ t, EC.mu P a q (j + 1) = t := ⟨_, rfl⟩
    have HT : Hid (EC.mu P a q (j + 1) = t) := ht
    rw [hs] at HO HA hfar
    rw [ht] at HA
    clear hs ht
    obtain ⟨sx, sy, sf⟩ := s
    have c0 : wr.cell? ⟨bb, 0, none⟩ = some (.int .i64 sx) := HO.out.s.cell 0
    have c1 : wr.cell? ⟨bb, 1, none⟩ = some (.int .i64 sy) := HO.out.s.cell 1
    have c2 : wr.cell? ⟨bb, 2, none⟩ = some (.bool sf) := HO.out.s.cell 2
    simp only at hfar
    rcases hfar with ⟨rfl, rfl⟩ | ⟨hlt, rfl⟩
    · go_wp2
      go_ret
      exact ⟨rfl, HO.out.k⟩
    · have HF : Hid (Ow w.heap.size wr.heap.size q ⟨sx, sy, false⟩ w (wr.alloc (.cells #[.int .i64 sx, .int .i64 sy, .bool false] 30))) := HO.out.fresh ⟨sx, sy, false⟩
      have Q0 : ∀ x : Obj, (wr.alloc x).cell? ⟨w.heap.size, 0, none⟩ = some (.int .i64 q.x) := fun x => (HO.out.q.alloc x).cell 0
      have Q1 : ∀ x : Obj, (wr.alloc x).cell? ⟨w.heap.size, 1, none⟩ = some (.int .i64 q.y) := fun x => (HO.out.q.alloc x).cell 1
      have Q2 : ∀ x : Obj, (wr.alloc x).cell? ⟨w.heap.size, 2, none⟩ = some (.bool q.far) := fun x => (HO.out.q.alloc x).cell 2
      unfold Pv at HA
      go_wp2_with fail
      refine (HA.out _).mono ?_
      rintro e w1 ⟨rfl, k1⟩
      have F1 := HF.out.below k1
      have HF1 : Hid (Ow w.heap.size wr.heap.size q ⟨sx, sy, false⟩ w w1) := F1
      have d0 : w1.cell? ⟨wr.heap.size, 0, none⟩ = some (.int .i64 sx) := F1.s.cell 0
      have d1 : w1.cell? ⟨wr.heap.size, 1, none⟩ = some (.int .i64 sy) := F1.s.cell 1
      have d2 : w1.cell? ⟨wr.heap.size, 2, none⟩ = some (.bool false) := F1.s.cell 2
      have f0 := F1.s.frozen 0
      have f1 := F1.s.frozen 1
      have f2 := F1.s.frozen 2
      clear F1 k1 HF HO Q0 Q1 Q2 c0 c1 c2
      go_wp2
      go_roundw
      case rel => exact ⟨j + 1, wr.heap.size, by omega, by omega, by go_num, rfl, by rw [HT.out]; exact HF1.out.set t⟩
      case measure => simp [intOf]; omega

end Go.Proofs.YtbeceimopamllaaDoor
