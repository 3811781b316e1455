/- likeBy: is one form the other one turned? -/
import Derived.Test.YtijkanilpblogadQfC
set_option linter.unusedSimpArgs false
set_option linter.unusedVariables false
set_option maxRecDepth 100000
namespace Go.Proofs.Ytijkanilpblogad
open Go.RowKit

/-- Two columns of a turning. -/
structure Mt where
  p : Int
  q : Int
  r : Int
  s : Int
def Mt.v (m : Mt) : Value := .agg #[.int .i64 m.p, .int .i64 m.q, .int .i64 m.r, .int .i64 m.s]
def Mt.upto (N : Int) (m : Mt) : Prop := (-N ≤ m.p ∧ m.p ≤ N) ∧ (-N ≤ m.q ∧ m.q ≤ N) ∧ (-N ≤ m.r ∧ m.r ≤ N) ∧ (-N ≤ m.s ∧ m.s ≤ N)

theorem Qf.upto.ia {f : Qf} (h : f.upto 1000000) : i64 f.a := ⟨by have := h.1; omega, by have := h.2.1; omega⟩
theorem Qf.upto.ib {f : Qf} (h : f.upto 1000000) : i64 f.b := ⟨by have := h.2.2.1; omega, by have := h.2.2.2.1; omega⟩
theorem Qf.upto.ic {f : Qf} (h : f.upto 1000000) : i64 f.c := ⟨by have := h.2.2.2.2.1; omega, by have := h.2.2.2.2.2; omega⟩
theorem at_lt {f : Qf} {x y : Int} (h : f.upto 1000000) (hx : i64 x) (hy : i64 y) : (f.at x y).natAbs < pw 8 := by
  have h1 : (x * x * f.a).natAbs < pw 6 := mul_lt_pw (mul_lt_pw hx.lt hx.lt) h.ia.lt
  have h2 : (x * y * f.b).natAbs < pw 6 := mul_lt_pw (mul_lt_pw hx.lt hy.lt) h.ib.lt
  have h3 : (y * y * f.c).natAbs < pw 6 := mul_lt_pw (mul_lt_pw hy.lt hy.lt) h.ic.lt
  have h4 := add_lt_pw h1 h2
  have h5 : pw 7 = 4294967296 * pw 6 := rfl
  have h6 : (y * y * f.c).natAbs < pw 7 := by omega
  exact add_lt_pw h4 h6

/-- The forms and the turning lie in memory. -/
structure LB (f g : Qf) (m : Mt) (w W : World) : Prop where
  f : Cl w.heap.size [.int .i64 f.a, .int .i64 f.b, .int .i64 f.c] 23 W
  g : Cl (w.heap.size + 1) [.int .i64 g.a, .int .i64 g.b, .int .i64 g.c] 23 W
  m : Cl (w.heap.size + 1 + 1) [.int .i64 m.p, .int .i64 m.q, .int .i64 m.r, .int .i64 m.s] 27 W
  b : Below w.heap.size w W
def S8 (f g : Qf) (m : Mt) (b : Nat) (W : World) : Prop :=
  W.cell? ⟨b, 0, none⟩ = some (.int .i64 f.a) ∧ W.cell? ⟨b, 1, none⟩ = some (.int .i64 f.b) ∧ W.cell? ⟨b, 2, none⟩ = some (.int .i64 f.c) ∧
  W.cell? ⟨b + 1, 0, none⟩ = some (.int .i64 g.a) ∧ W.cell? ⟨b + 1, 1, none⟩ = some (.int .i64 g.b) ∧ W.cell? ⟨b + 1, 2, none⟩ = some (.int .i64 g.c) ∧
  W.cell? ⟨b + 1 + 1, 0, none⟩ = some (.int .i64 m.p) ∧ W.cell? ⟨b + 1 + 1, 1, none⟩ = some (.int .i64 m.q) ∧ W.cell? ⟨b + 1 + 1, 2, none⟩ = some (.int .i64 m.r) ∧ W.cell? ⟨b + 1 + 1, 3, none⟩ = some (.int .i64 m.s)
theorem LB.s8 {f g : Qf} {m : Mt} {w W : World} (h : LB f g m w W) : S8 f g m w.heap.size W :=
  ⟨h.f.cell 0, h.f.cell 1, h.f.cell 2, h.g.cell 0, h.g.cell 1, h.g.cell 2, h.m.cell 0, h.m.cell 1, h.m.cell 2, h.m.cell 3⟩
theorem S8.drew {f g : Qf} {m : Mt} {b : Nat} {W : World} (h : S8 f g m b W) : S8 f g m b W.drew := h
theorem LB.below {f g : Qf} {m : Mt} {w W W' : World} (h : LB f g m w W) (k : Below W.heap.size W W') : LB f g m w W' := ⟨h.f.below k, h.g.below k, h.m.below k, h.b.trans (k.mono h.b.size)⟩

theorem mul_small {a N : Int} {x : Nat} (h : -N ≤ a ∧ a ≤ N) (hx : x < 2) : -N ≤ a * (x : Int) ∧ a * (x : Int) ≤ N := by
  have : x = 0 ∨ x = 1 := by omega
  rcases this with rfl | rfl
  · simp; omega
  · simpa using h

set_option maxHeartbeats 4000000 in
theorem likeBy_any (f g : Qf) (m : Mt) (w : World) (hm : m.upto 100000000) (hf : f.upto 1000000) (hg : g.upto 1000000)
    (h : ∀ x y : Int, f.at (m.p * x + m.q * y) (m.r * x + m.s * y) = g.at x y) :
    Calls Try.prog 12 #[f.v, g.v, m.v] w fun e w' => e = .returned (.bool true) ∧ Below w.heap.size w w' := by
  have HM : Hid (m.upto 100000000) := hm
  have HF : Hid (f.upto 1000000) := hf
  have HG : Hid (g.upto 1000000) := hg
  have HE : Hid (∀ x y : Int, f.at (m.p * x + m.q * y) (m.r * x + m.s * y) = g.at x y) := h
  clear hm hf hg h
  unfold Qf.v Mt.v
  go_enter Try.func12, Try.ntmps12
  go_wp2
  obtain ⟨W1, hW1⟩ : ∃ W1, W1 = ((w.alloc (.cells #[.int .i64 f.a, .int .i64 f.b, .int .i64 f.c] 23)).alloc (.cells #[.int .i64 g.a, .int .i64 g.b, .int .i64 g.c] 23)).alloc (.cells #[.int .i64 m.p, .int .i64 m.q, .int .i64 m.r, .int .i64 m.s] 27) := ⟨_, rfl⟩
  have H0 : Hid (LB f g m w W1) := by
    rw [hW1]
    refine ⟨((Cl.new _ _ w).alloc _).alloc _, ?_, ?_, Below.alloc (Below.alloc (Below.alloc (Below.refl _ _) (Nat.le_refl _) _) (by simp) _) (by simp; omega) _⟩
    · have h := (Cl.new [.int .i64 g.a, .int .i64 g.b, .int .i64 g.c] 23 (w.alloc (.cells #[.int .i64 f.a, .int .i64 f.b, .int .i64 f.c] 23))).alloc (.cells #[.int .i64 m.p, .int .i64 m.q, .int .i64 m.r, .int .i64 m.s] 27)
      rw [World.size_alloc] at h; exact h
    · have h := Cl.new [.int .i64 m.p, .int .i64 m.q, .int .i64 m.r, .int .i64 m.s] 27 ((w.alloc (.cells #[.int .i64 f.a, .int .i64 f.b, .int .i64 f.c] 23)).alloc (.cells #[.int .i64 g.a, .int .i64 g.b, .int .i64 g.c] 23))
      rw [World.size_alloc, World.size_alloc] at h; exact h
  rw [← hW1]
  clear hW1
  go_loopw [7] (fun xv wx => ∃ x : Nat, x ≤ 2 ∧ xv = .int .i64 x ∧ Hid (LB f g m w wx)) (fun xv _ => 2 - (intOf xv).toNat)
  case atStart => exact ⟨0, by omega, rfl, H0.out⟩
  case round =>
    obtain ⟨x, hx, rfl, HL⟩ := hrel
    clear H0
    by_cases hx2 : x < 2
    · have tx : decide ((x : Int) < 2) = true := decide_eq_true (by omega)
      go_wp2
      go_loopw [8] (fun yv wx => ∃ y : Nat, y ≤ 2 ∧ yv = .int .i64 y ∧ Hid (LB f g m w wx)) (fun yv _ => 2 - (intOf yv).toNat)
      case atStart => exact ⟨0, by omega, rfl, HL.out⟩
      case round =>
        obtain ⟨y, hy, rfl, HL2⟩ := hrel
        clear HL
        by_cases hy2 : y < 2
        · have z0 := HL2.out.m.lt
          have b1 := mul_small HM.out.1 hx2
          have b2 := mul_small HM.out.2.1 hy2
          have b3 := mul_small HM.out.2.2.1 hx2
          have b4 := mul_small HM.out.2.2.2 hy2
          have HV := HE.out x y
          obtain ⟨A1, e1⟩ : ∃ A, m.p * (x : Int) = A := ⟨_, rfl⟩
          obtain ⟨A2, e2⟩ : ∃ A, m.q * (y : Int) = A := ⟨_, rfl⟩
          obtain ⟨A3, e3⟩ : ∃ A, m.r * (x : Int) = A := ⟨_, rfl⟩
          obtain ⟨A4, e4⟩ : ∃ A, m.s * (y : Int) = A := ⟨_, rfl⟩
          rw [e1, e2, e3, e4] at HV
          rw [e1] at b1
          rw [e2] at b2
          rw [e3] at b3
          rw [e4] at b4
          have HV2 : Hid (f.at (A1 + A2) (A3 + A4) = g.at x y) := HV
          clear HV
          go_wp2_with fail
          refine wp_region_G (S8 f g m w.heap.size) 25 (by kernel_rfl) (HL2.out.s8.drew) (fun hHeld => ?_)
          refine wpAnyG_take (i := 0) (v := ?v0) rfl (by kernel_rfl) (fun _ _ _ h => h) (Or.inl ⟨by rfl, ?y0⟩) hHeld ?r0
          case y0 => (intro wS hSw; obtain ⟨s1, s2, s3, s4, s5, s6, s7, s8, s9, s10⟩ := hSw; go_simp; try with_reducible rfl)
          try simp only [Act.put, List.setIfInBounds_toArray, List.set_cons_zero, List.set_cons_succ]
          refine wpAnyG_take (i := 1) (v := ?v1) rfl (by kernel_rfl) (fun _ _ _ h => h) (Or.inl ⟨by rfl, ?y1⟩) hHeld ?r1
          case y1 => (intro wS hSw; obtain ⟨s1, s2, s3, s4, s5, s6, s7, s8, s9, s10⟩ := hSw; go_simp; try with_reducible rfl)
          try simp only [Act.put, List.setIfInBounds_toArray, List.set_cons_zero, List.set_cons_succ]
          refine wpAnyG_take (i := 2) (v := ?v2) rfl (by kernel_rfl) (fun _ _ _ h => h) (Or.inl ⟨by rfl, ?y2⟩) hHeld ?r2
          case y2 => (intro wS hSw; obtain ⟨s1, s2, s3, s4, s5, s6, s7, s8, s9, s10⟩ := hSw; go_simp; try with_reducible rfl)
          try simp only [Act.put, List.setIfInBounds_toArray, List.set_cons_zero, List.set_cons_succ]
          refine wpAnyG_take (i := 3) (v := ?v3) rfl (by kernel_rfl) (fun _ _ _ h => h) (Or.inl ⟨by rfl, ?y3⟩) hHeld ?r3
          case y3 => (intro wS hSw; obtain ⟨s1, s2, s3, s4, s5, s6, s7, s8, s9, s10⟩ := hSw; go_simp; try with_reducible rfl)
          try simp only [Act.put, List.setIfInBounds_toArray, List.set_cons_zero, List.set_cons_succ]
          refine wpAnyG_take (i := 4) (v := ?v4) rfl (by kernel_rfl) (fun _ _ _ h => h) (Or.inl ⟨by rfl, ?y4⟩) hHeld ?r4
          case y4 => (intro wS hSw; obtain ⟨s1, s2, s3, s4, s5, s6, s7, s8, s9, s10⟩ := hSw; go_simp; try with_reducible rfl)
          try simp only [Act.put, List.setIfInBounds_toArray, List.set_cons_zero, List.set_cons_succ]
          refine wpAnyG_take (i := 5) (v := ?v5) rfl (by kernel_rfl) (fun _ _ _ h => h) (Or.inl ⟨by rfl, ?y5⟩) hHeld ?r5
          case y5 => (intro wS hSw; obtain ⟨s1, s2, s3, s4, s5, s6, s7, s8, s9, s10⟩ := hSw; go_simp; try with_reducible rfl)
          try simp only [Act.put, List.setIfInBounds_toArray, List.set_cons_zero, List.set_cons_succ]
          refine wpAnyG_take (i := 6) (v := ?v6) rfl (by kernel_rfl) (fun _ _ _ h => h) (Or.inl ⟨by rfl, ?y6⟩) hHeld ?r6
          case y6 => (intro wS hSw; obtain ⟨s1, s2, s3, s4, s5, s6, s7, s8, s9, s10⟩ := hSw; go_simp; try with_reducible rfl)
          try simp only [Act.put, List.setIfInBounds_toArray, List.set_cons_zero, List.set_cons_succ]
          refine wpAnyG_take (i := 7) (v := ?v7) rfl (by kernel_rfl) (fun _ _ _ h => h) (Or.inl ⟨by rfl, ?y7⟩) hHeld ?r7
          case y7 => (intro wS hSw; obtain ⟨s1, s2, s3, s4, s5, s6, s7, s8, s9, s10⟩ := hSw; go_simp; try with_reducible rfl)
          try simp only [Act.put, List.setIfInBounds_toArray, List.set_cons_zero, List.set_cons_succ]
          refine wpAnyG_take (i := 8) (v := ?v8) rfl (by kernel_rfl) (fun _ _ _ h => h) (Or.inl ⟨by rfl, ?y8⟩) hHeld ?r8
          case y8 => (intro wS hSw; obtain ⟨s1, s2, s3, s4, s5, s6, s7, s8, s9, s10⟩ := hSw; go_simp; try with_reducible rfl)
          try simp only [Act.put, List.setIfInBounds_toArray, List.set_cons_zero, List.set_cons_succ]
          refine wpAnyG_take (i := 9) (v := ?v9) rfl (by kernel_rfl) (fun _ _ _ h => h) (Or.inl ⟨by rfl, ?y9⟩) hHeld ?r9
          case y9 => (intro wS hSw; obtain ⟨s1, s2, s3, s4, s5, s6, s7, s8, s9, s10⟩ := hSw; go_simp; try with_reducible rfl)
          try simp only [Act.put, List.setIfInBounds_toArray, List.set_cons_zero, List.set_cons_succ]
          refine wpAnyG_take (i := 10) (v := ?v10) rfl (by kernel_rfl) (fun _ _ _ h => h) (Or.inl ⟨by rfl, ?y10⟩) hHeld ?r10
          case y10 => (intro wS hSw; obtain ⟨s1, s2, s3, s4, s5, s6, s7, s8, s9, s10⟩ := hSw; go_simp; try with_reducible rfl)
          try simp only [Act.put, List.setIfInBounds_toArray, List.set_cons_zero, List.set_cons_succ]
          refine wpAnyG_take (i := 11) (v := ?v11) rfl (by kernel_rfl) (fun _ _ _ h => h) (Or.inl ⟨by rfl, ?y11⟩) hHeld ?r11
          case y11 => (intro wS hSw; obtain ⟨s1, s2, s3, s4, s5, s6, s7, s8, s9, s10⟩ := hSw; go_simp; try with_reducible rfl)
          try simp only [Act.put, List.setIfInBounds_toArray, List.set_cons_zero, List.set_cons_succ]
          refine wpAnyG_take (i := 12) (v := ?v12) rfl (by kernel_rfl) (fun _ _ _ h => h) (Or.inl ⟨by rfl, ?y12⟩) hHeld ?r12
          case y12 => (intro wS hSw; obtain ⟨s1, s2, s3, s4, s5, s6, s7, s8, s9, s10⟩ := hSw; go_simp; try with_reducible rfl)
          try simp only [Act.put, List.setIfInBounds_toArray, List.set_cons_zero, List.set_cons_succ]
          refine wpAnyG_take (i := 13) (v := ?v13) rfl (by kernel_rfl) (fun _ _ _ h => h) (Or.inl ⟨by rfl, ?y13⟩) hHeld ?r13
          case y13 => (intro wS hSw; obtain ⟨s1, s2, s3, s4, s5, s6, s7, s8, s9, s10⟩ := hSw; go_simp; try with_reducible rfl)
          try simp only [Act.put, List.setIfInBounds_toArray, List.set_cons_zero, List.set_cons_succ]
          refine wpAnyG_take (i := 14) (v := ?v14) rfl (by kernel_rfl) (fun _ _ _ h => h) (Or.inl ⟨by rfl, ?y14⟩) hHeld ?r14
          case y14 => (intro wS hSw; obtain ⟨s1, s2, s3, s4, s5, s6, s7, s8, s9, s10⟩ := hSw; go_simp; try with_reducible rfl)
          try simp only [Act.put, List.setIfInBounds_toArray, List.set_cons_zero, List.set_cons_succ]
          refine wpAnyG_take (i := 15) (v := ?v15) rfl (by kernel_rfl) (fun _ _ _ h => h) (Or.inl ⟨by rfl, ?y15⟩) hHeld ?r15
          case y15 => (intro wS hSw; obtain ⟨s1, s2, s3, s4, s5, s6, s7, s8, s9, s10⟩ := hSw; go_simp; try with_reducible rfl)
          try simp only [Act.put, List.setIfInBounds_toArray, List.set_cons_zero, List.set_cons_succ]
          refine wpAnyG_take (i := 16) (v := ?v16) rfl (by kernel_rfl) (fun _ _ _ h => h) (Or.inl ⟨by rfl, ?y16⟩) hHeld ?r16
          case y16 => (intro wS hSw; obtain ⟨s1, s2, s3, s4, s5, s6, s7, s8, s9, s10⟩ := hSw; go_simp; try with_reducible rfl)
          try simp only [Act.put, List.setIfInBounds_toArray, List.set_cons_zero, List.set_cons_succ]
          refine wpAnyG_take (i := 17) (v := ?v17) rfl (by kernel_rfl) (fun _ _ _ h => h) (Or.inl ⟨by rfl, ?y17⟩) hHeld ?r17
          case y17 => (intro wS hSw; obtain ⟨s1, s2, s3, s4, s5, s6, s7, s8, s9, s10⟩ := hSw; go_simp; try with_reducible rfl)
          try simp only [Act.put, List.setIfInBounds_toArray, List.set_cons_zero, List.set_cons_succ]
          refine wpAnyG_take (i := 18) (v := ?v18) rfl (by kernel_rfl) (fun _ _ _ h => h) (Or.inl ⟨by rfl, ?y18⟩) hHeld ?r18
          case y18 => (intro wS hSw; obtain ⟨s1, s2, s3, s4, s5, s6, s7, s8, s9, s10⟩ := hSw; go_simp; try with_reducible rfl)
          try simp only [Act.put, List.setIfInBounds_toArray, List.set_cons_zero, List.set_cons_succ]
          refine wpAnyG_take (i := 20) (v := ?v20) rfl (by kernel_rfl) (fun _ _ _ h => h) (Or.inl ⟨by rfl, ?y20⟩) hHeld ?r20
          case y20 => (intro wS hSw; obtain ⟨s1, s2, s3, s4, s5, s6, s7, s8, s9, s10⟩ := hSw; go_simp; try with_reducible rfl)
          try simp only [Act.put, List.setIfInBounds_toArray, List.set_cons_zero, List.set_cons_succ]
          refine wpAnyG_take (i := 21) (v := ?v21) rfl (by kernel_rfl) (fun _ _ _ h => h) (Or.inl ⟨by rfl, ?y21⟩) hHeld ?r21
          case y21 => (intro wS hSw; obtain ⟨s1, s2, s3, s4, s5, s6, s7, s8, s9, s10⟩ := hSw; go_simp; try with_reducible rfl)
          try simp only [Act.put, List.setIfInBounds_toArray, List.set_cons_zero, List.set_cons_succ]
          refine wpAnyG_take (i := 22) (v := ?v22) rfl (by kernel_rfl) (fun _ _ _ h => h) (Or.inl ⟨by rfl, ?y22⟩) hHeld ?r22
          case y22 => (intro wS hSw; obtain ⟨s1, s2, s3, s4, s5, s6, s7, s8, s9, s10⟩ := hSw; go_simp; try with_reducible rfl)
          try simp only [Act.put, List.setIfInBounds_toArray, List.set_cons_zero, List.set_cons_succ]
          refine wpAnyG_one (i := 19) rfl (by kernel_rfl) (fun K hK => ?_)
          go_simp
          have u1 : IntKind.i64.wrap A1 = A1 := by rw [IntKind.wrap_i64]; omega
          have u2 : IntKind.i64.wrap A2 = A2 := by rw [IntKind.wrap_i64]; omega
          have u3 : IntKind.i64.wrap A3 = A3 := by rw [IntKind.wrap_i64]; omega
          have u4 : IntKind.i64.wrap A4 = A4 := by rw [IntKind.wrap_i64]; omega
          have u5 : IntKind.i64.wrap (A1 + A2) = A1 + A2 := by rw [IntKind.wrap_i64]; omega
          have u6 : IntKind.i64.wrap (A3 + A4) = A3 + A4 := by rw [IntKind.wrap_i64]; omega
          simp only [u1, u2, u3, u4, u5, u6]
          clear u1 u2 u3 u4 u5 u6
          have HLd : Hid (LB f g m w wr.drew) := HL2.out.below (Below.drew (Below.refl _ _))
          refine (LongValue_any f (A1 + A2) (A3 + A4) _ HF.out.ia HF.out.ib HF.out.ic ⟨by omega, by omega⟩ ⟨by omega, by omega⟩).mono ?_
          rw [HV2.out]
          rintro e w2 ⟨z1, rfl, g1, i1, k1⟩
          have HL3 : Hid (LB f g m w w2) := HLd.out.below k1
          have I1 : Hid (BigAt w2 z1 (g.at x y)) := i1
          clear i1 k1 g1 hHeld HLd
          have hHeld := HL3.out.s8
          refine hK.out _ _ hHeld ?_
          clear hK K
          try simp only [Act.put, List.setIfInBounds_toArray, List.set_cons_zero, List.set_cons_succ]
          refine wpAnyG_one (i := 23) rfl (by kernel_rfl) (fun K hK => ?_)
          go_simp
          refine (LongValue_any g x y _ HG.out.ia HG.out.ib HG.out.ic ⟨by omega, by omega⟩ ⟨by omega, by omega⟩).mono ?_
          rintro e w3 ⟨z2, rfl, g2, i2, k2⟩
          have HL4 : Hid (LB f g m w w3) := HL3.out.below k2
          have I2 : Hid (BigAt w3 z1 (g.at x y) ∧ BigAt w3 z2 (g.at x y)) := ⟨I1.out.below k2 (Nat.le_refl _), i2⟩
          clear i2 k2 g2 hHeld HL3 I1
          have hHeld := HL4.out.s8
          refine hK.out _ _ hHeld ?_
          clear hK K
          try simp only [Act.put, List.setIfInBounds_toArray, List.set_cons_zero, List.set_cons_succ]
          refine wpAnyG_one (i := 24) rfl (by kernel_rfl) (fun K hK => ?_)
          go_simp
          refine (Cmp_any z1 z2 (g.at x y) (g.at x y) 8 8 _ I2.out.1 I2.out.2 (at_lt HG.out ⟨by omega, by omega⟩ ⟨by omega, by omega⟩) (at_lt HG.out ⟨by omega, by omega⟩ ⟨by omega, by omega⟩) (by omega) (by omega)).mono ?_
          rw [show cmpZ (g.at x y) (g.at x y) = 0 by simp [cmpZ]]
          rintro e w4 ⟨rfl, kk, rfl⟩
          have HL5 : Hid (LB f g m w (w3.drewN kk)) := HL4.out.below (below_drewN' (Below.refl _ _))
          clear hHeld HL4 I2
          have hHeld := HL5.out.s8
          refine hK.out _ _ hHeld ?_
          clear hK K
          try simp only [Act.put, List.setIfInBounds_toArray, List.set_cons_zero, List.set_cons_succ]
          refine wpAnyG_last (i := 25) rfl (by kernel_rfl) (by kernel_rfl) (fun K hK => ?_)
          go_simp
          refine hK.out _ _ ?_
          clear hK K
          try simp only [Act.put, List.setIfInBounds_toArray, List.set_cons_zero, List.set_cons_succ]
          refine wpAnyG_done (by kernel_rfl) ?_ _
          clear hHeld
          go_wp2
          go_roundw
          case rel => exact ⟨y + 1, by omega, by go_num, HL5.out⟩
          case measure => simp [intOf]; omega
        · obtain rfl : y = 2 := by omega
          go_wp2
          go_roundw
          case rel => exact ⟨x + 1, by omega, by go_num, HL2.out⟩
          case measure => simp [intOf]; omega
    · obtain rfl : x = 2 := by omega
      go_wp2
      go_ret
      exact ⟨rfl, HL.out.b⟩

end Go.Proofs.Ytijkanilpblogad
