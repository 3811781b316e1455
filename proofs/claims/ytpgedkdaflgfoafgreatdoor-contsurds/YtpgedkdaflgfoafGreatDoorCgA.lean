/- The program: cont.surd: quotient, next. -/
import Derived.Test.YtpgedkdaflgfoafGreatDoorCfM
import Derived.Test.YtpgedkdaflgfoafGreatDoorJoinG
import Derived.Test.YtpgedkdaflgfoafGreatDoorJoinC
set_option linter.unusedSimpArgs false
set_option linter.unusedVariables false
set_option maxRecDepth 100000
namespace Go.Proofs.YtpgedkdaflgfoafGreatDoor
open Go.RowKit

/-- (p + the root of d) / q. -/
def sgv (d r p q : Nat) : Value := .agg #[.int .i64 (d : Int), .int .i64 (r : Int), .int .i64 (p : Int), .int .i64 (q : Int)]
def sgc (d r p q : Nat) : List Value := [.int .i64 (d : Int), .int .i64 (r : Int), .int .i64 (p : Int), .int .i64 (q : Int)]

set_option maxHeartbeats 1000000 in
theorem quotient_any (d r p q : Nat) (w : World) (hp : p ≤ 1000000000) (hr : r ≤ 1000000000) (hq : 1 ≤ q) (hq2 : q ≤ 1000000000) :
    Calls Tryz.prog 44 #[sgv d r p q] w fun e w' => e = .returned (.int .i64 (((p + r) / q : Nat) : Int)) ∧ Below w.heap.size w w' := by
  have hq0 : ((q : Int) == 0) = false := beq_eq_false_iff_ne.2 (by omega)
  obtain ⟨s, hs⟩ : ∃ s : Nat, s = p + r := ⟨_, rfl⟩
  have hsI : (p : Int) + (r : Int) = (s : Int) := by omega
  have hs2 : s ≤ 2000000000 := by omega
  obtain ⟨k, hk⟩ : ∃ k : Nat, k = s / q := ⟨_, rfl⟩
  have hk2 : k ≤ 2000000000 := by rw [hk]; exact Nat.le_trans (Nat.div_le_self _ _) hs2
  have hkI : Int.tdiv (s : Int) (q : Int) = (k : Int) := by rw [hk]; rfl
  have hkJ : (s : Int) / (q : Int) = (k : Int) := by rw [hk, Int.natCast_ediv]
  rw [← hs, ← hk]
  clear hs hk
  unfold sgv
  go_enter Tryz.func44, Tryz.ntmps44
  go_wp2
  go_ret
  exact ⟨rfl, (Below.refl _ _).alloc (Nat.le_refl _) _⟩

structure Nb (b : Nat) (d r p q : Nat) (w : World) : Prop where
  x : Cl b (sgc d r p q) 77 w
  z : Cl (b + 1) (sgc 0 0 0 0) 77 w
theorem Nb.below {b B d r p q : Nat} {w w' : World} (h : Nb b d r p q w) (k : Below B w w') (hB : b + 2 ≤ B) : Nb b d r p q w' :=
  ⟨(k.block _ (by omega)).trans h.x, (k.block _ (by omega)).trans h.z⟩
theorem Nb.start (d r p q : Nat) (w : World) : Nb w.heap.size d r p q ((w.alloc (.cells #[.int .i64 (d : Int), .int .i64 (r : Int), .int .i64 (p : Int), .int .i64 (q : Int)] 77)).alloc (.cells #[.int .i64 0, .int .i64 0, .int .i64 0, .int .i64 0] 77)) := by
  refine ⟨(Cl.new (sgc d r p q) _ w).alloc _, ?_⟩
  have := (Cl.new (sgc 0 0 0 0) 77 (w.alloc (.cells #[.int .i64 (d : Int), .int .i64 (r : Int), .int .i64 (p : Int), .int .i64 (q : Int)] 77)))
  rw [World.size_alloc] at this
  exact this
abbrev S4c (b : Nat) (d r p q : Nat) (w : World) : Prop := w.cell? ⟨b, 0, none⟩ = some (.int .i64 (d : Int)) ∧ w.cell? ⟨b, 1, none⟩ = some (.int .i64 (r : Int)) ∧ w.cell? ⟨b, 2, none⟩ = some (.int .i64 (p : Int)) ∧ w.cell? ⟨b, 3, none⟩ = some (.int .i64 (q : Int))
theorem s4c_of {b d r p q : Nat} {w : World} (h : Cl b (sgc d r p q) 77 w) : S4c b d r p q w :=
  ⟨h.cell 0, h.cell 1, h.cell 2, h.cell 3⟩

set_option maxHeartbeats 4000000 in
theorem next_any (d r p q P Q : Nat) (w : World) (hd : d ≤ 1000000000) (hp : p ≤ 1000000) (hr : r ≤ 1000000) (hq : 1 ≤ q) (hq2 : q ≤ 1000000) (hPr : P ≤ 1000000) (hP : P + p = (p + r) / q * q) (hPd : P * P ≤ d) (hQ : (d - P * P) / q = Q) :
    Calls Tryz.prog 80 #[sgv d r p q] w fun e w' => e = .returned (sgv d r P Q) ∧ Below w.heap.size w w' := by
  obtain ⟨k, hk⟩ : ∃ k : Nat, k = (p + r) / q := ⟨_, rfl⟩
  have hk2 : k ≤ 2000000 := by rw [hk]; exact Nat.le_trans (Nat.div_le_self _ _) (by omega)
  have HQt : Hid (∀ W, Calls Tryz.prog 44 #[sgv d r p q] W fun e w' => e = .returned (.int .i64 (k : Int)) ∧ Below W.heap.size W w') := fun W => by rw [hk]; exact quotient_any d r p q W (by omega) (by omega) hq (by omega)
  rw [← hk] at hP
  obtain ⟨M, hM⟩ : ∃ M : Nat, M = k * q := ⟨_, rfl⟩
  have hMI : (k : Int) * (q : Int) = (M : Int) := by rw [hM, Int.natCast_mul]
  rw [← hM] at hP
  have hPI : (M : Int) - (p : Int) = (P : Int) := by omega
  have hM2 : M ≤ 2000000 := by omega
  obtain ⟨PP, hPP⟩ : ∃ PP : Nat, PP = P * P := ⟨_, rfl⟩
  have hPPI : (P : Int) * (P : Int) = (PP : Int) := by rw [hPP, Int.natCast_mul]
  rw [← hPP] at hPd hQ
  have hDI : (d : Int) - (PP : Int) = ((d - PP : Nat) : Int) := by omega
  obtain ⟨D, hD⟩ : ∃ D : Nat, D = d - PP := ⟨_, rfl⟩
  rw [← hD] at hDI hQ
  have hD2 : D ≤ 1000000000 := by omega
  have hPP2 : PP ≤ 1000000000 := by omega
  have hq0 : ((q : Int) == 0) = false := beq_eq_false_iff_ne.2 (by omega)
  have hQI : Int.tdiv (D : Int) (q : Int) = (Q : Int) := by rw [← hQ]; rfl
  have hQJ : (D : Int) / (q : Int) = (Q : Int) := by rw [← hQ, Int.natCast_ediv]
  have hQ2 : Q ≤ 1000000000 := by rw [← hQ]; exact Nat.le_trans (Nat.div_le_self _ _) hD2
  clear hk hM hPP hD hP hPd hQ
  have N0 := Nb.start d r p q w
  obtain ⟨W0, hW0⟩ : ∃ W0, W0 = ((w.alloc (.cells #[.int .i64 (d : Int), .int .i64 (r : Int), .int .i64 (p : Int), .int .i64 (q : Int)] 77)).alloc (.cells #[.int .i64 0, .int .i64 0, .int .i64 0, .int .i64 0] 77)) := ⟨_, rfl⟩
  rw [← hW0] at N0
  have z0 : W0.heap.size = w.heap.size + 2 := by rw [hW0]; simp
  have KB0 : Hid (Below w.heap.size w W0) := by
    show Below _ _ _
    rw [hW0]; exact ((Below.refl _ _).alloc (Nat.le_refl _) _).alloc (by simp) _
  unfold sgv at HQt ⊢
  go_enter Tryz.func80, Tryz.ntmps80
  go_wp2
  rw [← hW0]
  clear hW0
  refine wp_region_G (S4c w.heap.size d r p q) 8 (by kernel_rfl) (s4c_of N0.x) (fun hHeld => ?_)
  refine wpAnyG_take (i := 0) (v := ?v0x1) rfl (by kernel_rfl) (fun _ _ _ h => h) (Or.inl ⟨by rfl, ?y0x1⟩) hHeld ?r0x1
  case y0x1 => (intro wS hSw; obtain ⟨s1, s2, s3, s4⟩ := hSw; go_simp; try with_reducible rfl)
  try simp only [Act.put, List.setIfInBounds_toArray, List.set_cons_zero, List.set_cons_succ]
  refine wpAnyG_take (i := 2) (v := ?v2x2) rfl (by kernel_rfl) (fun _ _ _ h => h) (Or.inl ⟨by rfl, ?y2x2⟩) hHeld ?r2x2
  case y2x2 => (intro wS hSw; obtain ⟨s1, s2, s3, s4⟩ := hSw; go_simp; try with_reducible rfl)
  try simp only [Act.put, List.setIfInBounds_toArray, List.set_cons_zero, List.set_cons_succ]
  refine wpAnyG_take (i := 3) (v := ?v3x3) rfl (by kernel_rfl) (fun _ _ _ h => h) (Or.inl ⟨by rfl, ?y3x3⟩) hHeld ?r3x3
  case y3x3 => (intro wS hSw; obtain ⟨s1, s2, s3, s4⟩ := hSw; go_simp; try with_reducible rfl)
  try simp only [Act.put, List.setIfInBounds_toArray, List.set_cons_zero, List.set_cons_succ]
  refine wpAnyG_take (i := 5) (v := ?v5x4) rfl (by kernel_rfl) (fun _ _ _ h => h) (Or.inl ⟨by rfl, ?y5x4⟩) hHeld ?r5x4
  case y5x4 => (intro wS hSw; obtain ⟨s1, s2, s3, s4⟩ := hSw; go_simp; try with_reducible rfl)
  try simp only [Act.put, List.setIfInBounds_toArray, List.set_cons_zero, List.set_cons_succ]
  refine wpAnyG_take (i := 6) (v := ?v6x5) rfl (by kernel_rfl) (fun _ _ _ h => h) (Or.inl ⟨by rfl, ?y6x5⟩) hHeld ?r6x5
  case y6x5 => (intro wS hSw; obtain ⟨s1, s2, s3, s4⟩ := hSw; go_simp; try with_reducible rfl)
  try simp only [Act.put, List.setIfInBounds_toArray, List.set_cons_zero, List.set_cons_succ]
  refine wpAnyG_one (i := 1) rfl (by kernel_rfl) (fun K hK => ?_)
  go_simp
  refine (HQt.out _).mono ?_
  rintro e w1 ⟨rfl, k1⟩
  have N1 := N0.below ((Below.refl (w.heap.size + 2) W0).drew.trans (k1.mono (by show _ ≤ W0.heap.size; omega))) (Nat.le_refl _)
  have HB1 : Hid (Below w.heap.size w w1) := KB0.out.drew.trans (k1.mono (by show _ ≤ W0.heap.size; omega))
  refine hK.out _ _ (s4c_of N1.x) ?_
  clear hK K
  try simp only [Act.put, List.setIfInBounds_toArray, List.set_cons_zero, List.set_cons_succ]
  clear hHeld
  have hHeld := s4c_of N1.x
  refine wpAnyG_take (i := 4) (v := ?v4x6) rfl (by kernel_rfl) (fun _ _ _ h => h) (Or.inl ⟨by rfl, ?y4x6⟩) hHeld ?r4x6
  case y4x6 => (intro wS hSw; obtain ⟨s1, s2, s3, s4⟩ := hSw; go_simp; try with_reducible rfl)
  try simp only [Act.put, List.setIfInBounds_toArray, List.set_cons_zero, List.set_cons_succ]
  refine wpAnyG_take (i := 7) (v := ?v7x7) rfl (by kernel_rfl) (fun _ _ _ h => h) (Or.inl ⟨by rfl, ?y7x7⟩) hHeld ?r7x7
  case y7x7 => (intro wS hSw; obtain ⟨s1, s2, s3, s4⟩ := hSw; go_simp; try with_reducible rfl)
  try simp only [Act.put, List.setIfInBounds_toArray, List.set_cons_zero, List.set_cons_succ]
  refine wpAnyG_last (i := 8) rfl (by kernel_rfl) (by kernel_rfl) (fun K hK => ?_)
  go_simp
  refine hK.out _ _ ?_
  clear hK K
  try simp only [Act.put, List.setIfInBounds_toArray, List.set_cons_zero, List.set_cons_succ]
  refine wpAnyG_done (by kernel_rfl) ?_ _
  have hw0 : IntKind.i64.wrap (M : Int) = (M : Int) := by rw [IntKind.wrap_i64]; omega
  have hw1 : IntKind.i64.wrap ((M : Int) - (p : Int)) = (P : Int) := by rw [hPI, IntKind.wrap_i64]; omega
  simp only [hw0, hw1]
  clear hw0 hw1 hHeld k1 N0 hMI hPI
  obtain ⟨c0, c1, c2, c3⟩ := s4c_of N1.x
  obtain ⟨e0, e1, e2, e3⟩ := s4c_of N1.z
  have f0 := N1.z.frozen 0
  have f1 := N1.z.frozen 1
  have f2 := N1.z.frozen 2
  have f3 := N1.z.frozen 3
  have HN1 : Hid (Nb w.heap.size d r p q w1) := N1
  clear N1
  go_wp2
  go_region
  have Z4 := ((((HN1.out.z.set 0 (.int .i64 (d : Int))).set 1 (.int .i64 (r : Int))).set 2 (.int .i64 (P : Int))).set 3 (.int .i64 (Q : Int))).drew
  have HBF : Hid (Below w.heap.size w (((((w1.setCell ⟨w.heap.size + 1, 0, none⟩ (.int .i64 (d : Int))).setCell ⟨w.heap.size + 1, 1, none⟩ (.int .i64 (r : Int))).setCell ⟨w.heap.size + 1, 2, none⟩ (.int .i64 (P : Int))).setCell ⟨w.heap.size + 1, 3, none⟩ (.int .i64 (Q : Int))).drew)) :=
    ((((HB1.out.setCell (by simp) _).setCell (by simp) _).setCell (by simp) _).setCell (by simp) _).drew
  generalize hWF : ((((w1.setCell ⟨w.heap.size + 1, 0, none⟩ (.int .i64 (d : Int))).setCell ⟨w.heap.size + 1, 1, none⟩ (.int .i64 (r : Int))).setCell ⟨w.heap.size + 1, 2, none⟩ (.int .i64 (P : Int))).setCell ⟨w.heap.size + 1, 3, none⟩ (.int .i64 (Q : Int))).drew = WF at Z4 HBF ⊢
  obtain ⟨g0, g1, g2, g3⟩ : S4c (w.heap.size + 1) d r P Q WF := ⟨Z4.cell 0, Z4.cell 1, Z4.cell 2, Z4.cell 3⟩
  clear c0 c1 c2 c3 e0 e1 e2 e3 f0 f1 f2 f3 Z4 hWF
  go_wp2
  exact bodyPost_ret (v := .agg #[.int .i64 (d : Int), .int .i64 (r : Int), .int .i64 (P : Int), .int .i64 (Q : Int)]) (by simp [results, Tryz.results80, go_sem, g0, g1, g2, g3]) rfl ⟨rfl, HBF.out⟩

end Go.Proofs.YtpgedkdaflgfoafGreatDoor
