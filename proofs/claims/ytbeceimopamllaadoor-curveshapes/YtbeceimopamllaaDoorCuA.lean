/- The program: a curve's square and has. -/
import Derived.Test.YtbeceimopamllaaDoorJnA
import Derived.Test.YtbeceimopamllaaDoorJnE
set_option linter.unusedSimpArgs false
set_option linter.unusedVariables false
set_option maxRecDepth 100000
namespace Go.Proofs.YtbeceimopamllaaDoor
open Go.RowKit EC

def Gv (P : Nat) (a b : Int) : Value := .agg #[.int .i64 P, .int .i64 a, .int .i64 b]
def Pv (q : Pn) : Value := .agg #[.int .i64 q.x, .int .i64 q.y, .bool q.far]
def Gl (P : Nat) (a b : Int) : List Value := [.int .i64 P, .int .i64 a, .int .i64 b]
def Pl (q : Pn) : List Value := [.int .i64 q.x, .int .i64 q.y, .bool q.far]

theorem pos_bd {x y M N : Int} (h1 : 0 ≤ x) (h2 : x ≤ M) (h3 : 0 ≤ y) (h4 : y ≤ N) : 0 ≤ x * y ∧ x * y ≤ M * N :=
  ⟨Int.mul_nonneg h1 h3, Int.mul_le_mul h2 h4 h3 (by omega)⟩
theorem abs_bd {x y M N : Int} (h1 : -M ≤ x) (h2 : x ≤ M) (h3 : -N ≤ y) (h4 : y ≤ N) : -(M * N) ≤ x * y ∧ x * y ≤ M * N := by
  have hM : 0 ≤ M := by omega
  have hN : 0 ≤ N := by omega
  have h : (x * y).natAbs ≤ (M * N).natAbs := by
    rw [Int.natAbs_mul, Int.natAbs_mul]
    exact Nat.mul_le_mul (by omega) (by omega)
  have h0 := Int.mul_nonneg hM hN
  omega

theorem cnew (W : World) (l : List Value) (t : TypeId) (z : Nat) (hz : W.heap.size = z) : Cl z l t (W.alloc (.cells l.toArray t)) := by subst hz; exact Cl.new l t W
theorem ala (W : World) (o : Obj) : Below W.heap.size W (W.alloc o) := Below.alloc (Below.refl _ _) (Nat.le_refl _) _

set_option maxHeartbeats 1000000 in
theorem square_any (P : Nat) (a b x : Int) (w : World) (hc : Cv P a b) (x0 : 0 ≤ x) (x1 : x < P) :
    Calls Tryd.prog 38 #[Gv P a b, .int .i64 x] w fun e w' => e = .returned (.int .i64 ((x * x * x + a * x + b) % (P : Int))) ∧ Below w.heap.size w w' := by
  have hp := hc.p2
  have hp5 := hc.p5
  have ha0 := hc.a0
  have ha1 := hc.a1
  have hb0 := hc.b0
  have hb1 := hc.b1
  obtain ⟨p, hp1⟩ : ∃ p, x * x = p := ⟨_, rfl⟩
  have e1 := pos_bd x0 (show x ≤ 2000 by omega) x0 (show x ≤ 2000 by omega)
  rw [hp1] at e1 ⊢
  obtain ⟨q, hq⟩ : ∃ q, p * x = q := ⟨_, rfl⟩
  have e2 := pos_bd e1.1 e1.2 x0 (show x ≤ 2000 by omega)
  rw [hq] at e2 ⊢
  obtain ⟨r, hr⟩ : ∃ r, a * x = r := ⟨_, rfl⟩
  have e3 := pos_bd ha0 (show a ≤ 2000 by omega) x0 (show x ≤ 2000 by omega)
  rw [hr] at e3 ⊢
  have hP0 : ((P : Int) == 0) = false := beq_eq_false_iff_ne.2 (by omega)
  have r0 := Int.emod_nonneg (q + r + b) (show (P : Int) ≠ 0 by omega)
  have r1 := Int.emod_lt_of_pos (q + r + b) (show 0 < (P : Int) by omega)
  clear hc
  unfold Gv
  go_enter Tryd.func38, Tryd.ntmps38
  go_wp2
  go_ret
  exact ⟨rfl, ala _ _⟩

/-- What a curve and a point hold. -/
abbrev S5 (h P : Nat) (a b x y : Int) (w : World) : Prop :=
  w.cell? ⟨h, 0, none⟩ = some (.int .i64 P) ∧ w.cell? ⟨h, 1, none⟩ = some (.int .i64 a) ∧ w.cell? ⟨h, 2, none⟩ = some (.int .i64 b) ∧ w.cell? ⟨h + 1, 0, none⟩ = some (.int .i64 x) ∧ w.cell? ⟨h + 1, 1, none⟩ = some (.int .i64 y)
theorem s5_of {h P : Nat} {a b x y : Int} {f : Bool} {w : World} (h0 : Cl h (Gl P a b) 52 w) (h1 : Cl (h + 1) [.int .i64 x, .int .i64 y, .bool f] 30 w) : S5 h P a b x y w :=
  ⟨h0.cell 0, h0.cell 1, h0.cell 2, h1.cell 0, h1.cell 1⟩

/-- Whether q is a point of the curve. -/
def hasB (P : Nat) (a b : Int) (q : Pn) : Bool :=
  if q.far = true then decide (q.x = 0) && decide (q.y = 0)
  else decide (0 ≤ q.x) && decide (q.x < P) && decide (0 ≤ q.y) && decide (q.y < P) && decide (q.y * q.y % (P : Int) = (q.x * q.x * q.x + a * q.x + b) % (P : Int))

theorem hasB_on {P : Nat} {a b : Int} {q : Pn} : hasB P a b q = true ↔ On P a b q := by
  unfold hasB On
  have k : q.y * q.y % (P : Int) = (q.x * q.x * q.x + a * q.x + b) % (P : Int) ↔ (q.x * q.x * q.x + a * q.x + b - q.y * q.y) % (P : Int) = 0 := by
    rw [eq_comm]; exact Int.emod_eq_emod_iff_emod_sub_eq_zero
  cases h : q.far
  · simp [k, and_assoc]
  · simp

set_option maxHeartbeats 2000000 in
theorem has_any (P : Nat) (a b : Int) (q : Pn) (w : World) (hc : Cv P a b) :
    Calls Tryd.prog 37 #[Gv P a b, Pv q] w fun e w' => e = .returned (.bool (hasB P a b q)) ∧ Below w.heap.size w w' := by
  have hp := hc.p2
  have hp5 := hc.p5
  obtain ⟨x, y, f⟩ := q
  cases hf : f
  case true =>
    by_cases hx : x = 0
    · by_cases hy : y = 0
      · have t1 : (x == 0) = true := beq_iff_eq.2 hx
        have t2 : (y == 0) = true := beq_iff_eq.2 hy
        have HB : hasB P a b ⟨x, y, true⟩ = true := by simp [hasB, hx, hy]
        rw [HB]
        clear HB hx hy
        unfold Gv Pv
        simp only [hf]
        go_enter Tryd.func37, Tryd.ntmps37
        go_wp2
        go_ret
        exact ⟨rfl, (ala _ _).trans ((ala _ _).mono (ala _ _).size)⟩
      · have t1 : (x == 0) = true := beq_iff_eq.2 hx
        have t2 : (y == 0) = false := beq_eq_false_iff_ne.2 hy
        have HB : hasB P a b ⟨x, y, true⟩ = false := by simp [hasB, hx, hy]
        rw [HB]
        clear HB hx hy
        unfold Gv Pv
        simp only [hf]
        go_enter Tryd.func37, Tryd.ntmps37
        go_wp2
        go_ret
        exact ⟨rfl, (ala _ _).trans ((ala _ _).mono (ala _ _).size)⟩
    · have t1 : (x == 0) = false := beq_eq_false_iff_ne.2 hx
      have HB : hasB P a b ⟨x, y, true⟩ = false := by simp [hasB, hx]
      rw [HB]
      clear HB hx
      unfold Gv Pv
      simp only [hf]
      go_enter Tryd.func37, Tryd.ntmps37
      go_wp2
      go_ret
      exact ⟨rfl, (ala _ _).trans ((ala _ _).mono (ala _ _).size)⟩
  case false =>
    by_cases hx : x < 0
    · have t1 : decide (x < 0) = true := decide_eq_true hx
      have HB : hasB P a b ⟨x, y, false⟩ = false := by simp [hasB]; intros; omega
      rw [HB]
      clear HB hx
      unfold Gv Pv
      simp only [hf]
      go_enter Tryd.func37, Tryd.ntmps37
      go_wp2
      go_ret
      exact ⟨rfl, (ala _ _).trans ((ala _ _).mono (ala _ _).size)⟩
    have t1 : decide (x < 0) = false := decide_eq_false hx
    by_cases hx2 : (P : Int) ≤ x
    · have t2 : decide ((P : Int) ≤ x) = true := decide_eq_true hx2
      have HB : hasB P a b ⟨x, y, false⟩ = false := by simp [hasB]; intros; omega
      rw [HB]
      clear HB hx hx2
      unfold Gv Pv
      simp only [hf]
      go_enter Tryd.func37, Tryd.ntmps37
      go_wp2
      go_ret
      exact ⟨rfl, (ala _ _).trans ((ala _ _).mono (ala _ _).size)⟩
    have t2 : decide ((P : Int) ≤ x) = false := decide_eq_false hx2
    by_cases hy : y < 0
    · have t3 : decide (y < 0) = true := decide_eq_true hy
      have HB : hasB P a b ⟨x, y, false⟩ = false := by simp [hasB]; intros; omega
      rw [HB]
      clear HB hx hx2 hy
      unfold Gv Pv
      simp only [hf]
      go_enter Tryd.func37, Tryd.ntmps37
      go_wp2
      go_ret
      exact ⟨rfl, (ala _ _).trans ((ala _ _).mono (ala _ _).size)⟩
    have t3 : decide (y < 0) = false := decide_eq_false hy
    by_cases hy2 : (P : Int) ≤ y
    · have t4 : decide ((P : Int) ≤ y) = true := decide_eq_true hy2
      have HB : hasB P a b ⟨x, y, false⟩ = false := by simp [hasB]; intros; omega
      rw [HB]
      clear HB hx hx2 hy hy2
      unfold Gv Pv
      simp only [hf]
      go_enter Tryd.func37, Tryd.ntmps37
      go_wp2
      go_ret
      exact ⟨rfl, (ala _ _).trans ((ala _ _).mono (ala _ _).size)⟩
    have t4 : decide ((P : Int) ≤ y) = false := decide_eq_false hy2
    have HB : hasB P a b ⟨x, y, false⟩ = (y * y % (P : Int) == (x * x * x + a * x + b) % (P : Int)) := by
      rw [Bool.eq_iff_iff]; simp [hasB]; intros; omega
    have HSq : Hid (∀ w, Calls Tryd.prog 38 #[Gv P a b, .int .i64 x] w fun e w' => e = .returned (.int .i64 ((x * x * x + a * x + b) % (P : Int))) ∧ Below w.heap.size w w') := fun w => square_any P a b x w hc (by omega) (by omega)
    rw [HB]
    obtain ⟨S, hS⟩ : ∃ S, (x * x * x + a * x + b) % (P : Int) = S := ⟨_, rfl⟩
    rw [hS] at HSq ⊢
    obtain ⟨Y, hY⟩ : ∃ Y, y * y = Y := ⟨_, rfl⟩
    have e1 := pos_bd (show 0 ≤ y by omega) (show y ≤ 2000 by omega) (show 0 ≤ y by omega) (show y ≤ 2000 by omega)
    rw [hY] at e1 ⊢
    have hP0 : ((P : Int) == 0) = false := beq_eq_false_iff_ne.2 (by omega)
    have r0 := Int.emod_nonneg Y (show (P : Int) ≠ 0 by omega)
    have r1 := Int.emod_lt_of_pos Y (show 0 < (P : Int) by omega)
    clear HB hS hc hx hx2 hy hy2
    unfold Gv Pv
    unfold Gv at HSq
    simp only [hf]
    go_enter Tryd.func37, Tryd.ntmps37
    go_wp2_with fail
    obtain ⟨W1, hW1⟩ : ∃ W1, W1 = (w.alloc (.cells #[.int .i64 P, .int .i64 a, .int .i64 b] 52)).alloc (.cells #[.int .i64 x, .int .i64 y, .bool false] 30) := ⟨_, rfl⟩
    have C0 : Cl w.heap.size (Gl P a b) 52 W1 := by rw [hW1]; exact (Cl.new (Gl P a b) _ w).alloc _
    have C1 : Cl (w.heap.size + 1) [.int .i64 x, .int .i64 y, .bool false] 30 W1 := by rw [hW1]; exact cnew _ [.int .i64 x, .int .i64 y, .bool false] _ _ (by simp)
    have HK : Hid (Below w.heap.size w W1) := by show Below _ _ _; rw [hW1]; exact (ala _ _).trans ((ala _ _).mono (ala _ _).size)
    rw [← hW1]
    clear hW1
    have hG := s5_of C0 C1
    have hPn : P ≠ 0 := by omega
    have hw0 : IntKind.i64.wrap Y = Y := by rw [IntKind.wrap_i64]; omega
    have hw1 : Y.tmod (P : Int) = Y % (P : Int) := Int.tmod_eq_emod_of_nonneg e1.1
    refine wp_region_G (S5 w.heap.size P a b x y) 13 (by kernel_rfl) hG (fun hHeld => ?_)
    refine wpAnyG_take (i := 0) (v := ?v0) rfl (by kernel_rfl) (fun _ _ _ h => h) (Or.inl ⟨by rfl, ?y0⟩) hHeld ?r0
    case y0 => (intro wS hSw; obtain ⟨s1, s2, s3, s4, s5⟩ := hSw; go_simp; try with_reducible rfl)
    try simp only [Act.put, List.setIfInBounds_toArray, List.set_cons_zero, List.set_cons_succ]
    refine wpAnyG_take (i := 1) (v := ?v1) rfl (by kernel_rfl) (fun _ _ _ h => h) (Or.inl ⟨by rfl, ?y1⟩) hHeld ?r1
    case y1 => (intro wS hSw; obtain ⟨s1, s2, s3, s4, s5⟩ := hSw; go_simp; try with_reducible rfl)
    try simp only [Act.put, List.setIfInBounds_toArray, List.set_cons_zero, List.set_cons_succ]
    refine wpAnyG_take (i := 2) (v := ?v2) rfl (by kernel_rfl) (fun _ _ _ h => h) (Or.inl ⟨by rfl, ?y2⟩) hHeld ?r2
    case y2 => (intro wS hSw; obtain ⟨s1, s2, s3, s4, s5⟩ := hSw; go_simp; try with_reducible rfl)
    try simp only [Act.put, List.setIfInBounds_toArray, List.set_cons_zero, List.set_cons_succ]
    refine wpAnyG_take (i := 3) (v := ?v3) rfl (by kernel_rfl) (fun _ _ _ h => h) (Or.inl ⟨by rfl, ?y3⟩) hHeld ?r3
    case y3 => (intro wS hSw; obtain ⟨s1, s2, s3, s4, s5⟩ := hSw; go_simp; try with_reducible rfl)
    try simp only [Act.put, List.setIfInBounds_toArray, List.set_cons_zero, List.set_cons_succ]
    refine wpAnyG_take (i := 4) (v := ?v4) rfl (by kernel_rfl) (fun _ _ _ h => h) (Or.inl ⟨by rfl, ?y4⟩) hHeld ?r4
    case y4 => (intro wS hSw; obtain ⟨s1, s2, s3, s4, s5⟩ := hSw; go_simp; try with_reducible rfl)
    try simp only [Act.put, List.setIfInBounds_toArray, List.set_cons_zero, List.set_cons_succ]
    refine wpAnyG_take (i := 5) (v := ?v5) rfl (by kernel_rfl) (fun _ _ _ h => h) (Or.inl ⟨by rfl, ?y5⟩) hHeld ?r5
    case y5 => (intro wS hSw; obtain ⟨s1, s2, s3, s4, s5⟩ := hSw; go_simp; try with_reducible rfl)
    try simp only [Act.put, List.setIfInBounds_toArray, List.set_cons_zero, List.set_cons_succ]
    refine wpAnyG_take (i := 6) (v := ?v6) rfl (by kernel_rfl) (fun _ _ _ h => h) (Or.inl ⟨by rfl, ?y6⟩) hHeld ?r6
    case y6 => (intro wS hSw; obtain ⟨s1, s2, s3, s4, s5⟩ := hSw; go_simp; try with_reducible rfl)
    try simp only [Act.put, List.setIfInBounds_toArray, List.set_cons_zero, List.set_cons_succ]
    refine wpAnyG_take (i := 7) (v := ?v7) rfl (by kernel_rfl) (fun _ _ _ h => h) (Or.inl ⟨by rfl, ?y7⟩) hHeld ?r7
    case y7 => (intro wS hSw; obtain ⟨s1, s2, s3, s4, s5⟩ := hSw; go_simp; try with_reducible rfl)
    try simp only [Act.put, List.setIfInBounds_toArray, List.set_cons_zero, List.set_cons_succ]
    refine wpAnyG_take (i := 8) (v := ?v8) rfl (by kernel_rfl) (fun _ _ _ h => h) (Or.inl ⟨by rfl, ?y8⟩) hHeld ?r8
    case y8 => (intro wS hSw; obtain ⟨s1, s2, s3, s4, s5⟩ := hSw; go_simp; try with_reducible rfl)
    try simp only [Act.put, List.setIfInBounds_toArray, List.set_cons_zero, List.set_cons_succ]
    refine wpAnyG_take (i := 9) (v := ?v9) rfl (by kernel_rfl) (fun _ _ _ h => h) (Or.inl ⟨by rfl, ?y9⟩) hHeld ?r9
    case y9 => (intro wS hSw; obtain ⟨s1, s2, s3, s4, s5⟩ := hSw; go_simp; try with_reducible rfl)
    try simp only [Act.put, List.setIfInBounds_toArray, List.set_cons_zero, List.set_cons_succ]
    refine wpAnyG_take (i := 10) (v := ?v10) rfl (by kernel_rfl) (fun _ _ _ h => h) (Or.inl ⟨by rfl, ?y10⟩) hHeld ?r10
    case y10 => (intro wS hSw; obtain ⟨s1, s2, s3, s4, s5⟩ := hSw; go_simp; try with_reducible rfl)
    try simp only [Act.put, List.setIfInBounds_toArray, List.set_cons_zero, List.set_cons_succ]
    refine wpAnyG_one (i := 11) rfl (by kernel_rfl) (fun K hK => ?_)
    go_simp
    refine (HSq.out _).mono ?_
    rintro e w1 ⟨rfl, k1⟩
    have k0 : Below W1.heap.size W1 w1 := (Below.refl _ _).drew.trans k1
    have HB1 : Hid (Below w.heap.size w w1) := HK.out.trans (k0.mono HK.out.size)
    have hG1 := s5_of (C0.below k0) (C1.below k0)
    refine hK.out _ _ hG1 ?_
    clear hK K
    try simp only [Act.put, List.setIfInBounds_toArray, List.set_cons_zero, List.set_cons_succ]
    clear hHeld
    have hHeld := hG1
    refine wpAnyG_take (i := 12) (v := ?v12) rfl (by kernel_rfl) (fun _ _ _ h => h) (Or.inl ⟨by rfl, ?y12⟩) hHeld ?r12
    case y12 => (intro wS hSw; obtain ⟨s1, s2, s3, s4, s5⟩ := hSw; go_simp; try with_reducible rfl)
    try simp only [Act.put, List.setIfInBounds_toArray, List.set_cons_zero, List.set_cons_succ]
    refine wpAnyG_last (i := 13) rfl (by kernel_rfl) (by kernel_rfl) (fun K hK => ?_)
    go_simp
    refine hK.out _ _ ?_
    clear hK K
    try simp only [Act.put, List.setIfInBounds_toArray, List.set_cons_zero, List.set_cons_succ]
    refine wpAnyG_done (by kernel_rfl) ?_ _
    go_wp2
    go_ret
    exact ⟨rfl, HB1.out⟩
end Go.Proofs.YtbeceimopamllaaDoor
