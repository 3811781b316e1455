/- CertChecks: the walk. -/
import Derived.Test.YtknmfohipdjlpabGreatDoorCertF
import Derived.Test.YtknmfohipdjlpabGreatDoorCertA
import Derived.Test.YtknmfohipdjlpabGreatDoorPrimeS
import Derived.Test.YtknmfohipdjlpabGreatDoorRegionG
set_option linter.unusedSimpArgs false
set_option linter.unusedVariables false
set_option maxRecDepth 100000
namespace Go.Proofs.YtknmfohipdjlpabGreatDoor.certChecks
open Go.RowKit

/-- What the example of the document comes to. -/
def Begun : Prop := ∀ w : World, Calls Tryz.prog 5 #[] w fun e w' => e = .returned (.bool true) ∧ Below w.heap.size w w'

set_option maxHeartbeats 1000000 in
theorem walk (begun : Begun) {c : Ct} (W : World) (hc : InW W.heap.size W c) :
    Calls Tryz.prog 3 #[.agg #[.int .i64 c.n, .int .i64 c.r, c.sl]] W fun e w' => e = .returned (.bool true) ∧ Below W.heap.size W w' := by
  obtain ⟨n, hn⟩ : ∃ n, c.n = n := ⟨_, rfl⟩
  obtain ⟨r, hr⟩ : ∃ r, c.r = r := ⟨_, rfl⟩
  obtain ⟨sa, sl, sc, hsl⟩ : ∃ x y z, c.sl = .slice x y z := ⟨_, _, _, rfl⟩
  have HC : Hid (InW W.heap.size W c) := hc
  have HN : Hid (c.n = n ∧ c.r = r ∧ c.sl = .slice sa sl sc) := ⟨hn, hr, hsl⟩
  rw [hn, hr, hsl]
  clear hn hr hsl hc
  go_enter Tryz.func3, Tryz.ntmps3
  go_wp2_with fail
  refine (begun _).mono ?_
  rintro e w1 ⟨rfl, k1⟩
  have z1 := k1.size
  simp at z1
  have K1 : Hid (Below W.heap.size W w1) := ((Below.refl _ _).alloc (Nat.le_refl _) _).trans (k1.mono (by simp))
  have c0 : w1.cell? ⟨W.heap.size, 0, none⟩ = some (.int .i64 n) := (k1.cell (p := ⟨W.heap.size, 0, none⟩) (by simp)).trans (by simp)
  have c1 : w1.cell? ⟨W.heap.size, 1, none⟩ = some (.int .i64 r) := (k1.cell (p := ⟨W.heap.size, 1, none⟩) (by simp)).trans (by simp)
  have c2 : w1.cell? ⟨W.heap.size, 2, none⟩ = some (.slice sa sl sc) := (k1.cell (p := ⟨W.heap.size, 2, none⟩) (by simp)).trans (by simp)
  clear k1 begun
  have hcall := deep_any HC.out w1 0 (by omega) (by omega) K1.out (by omega)
  rw [HN.out.1, HN.out.2.1, HN.out.2.2] at hcall
  have HCall : Hid (Calls Tryz.prog 6 #[.agg #[.int .i64 n, .int .i64 r, .slice sa sl sc], .int .i64 0] w1 (DeepPost c w1)) := hcall
  clear hcall
  go_wp2_with fail
  refine HCall.out.mono ?_
  rintro e w2 ⟨v, rfl, hv, k2⟩
  have z2 := k2.size
  have K2 : Hid (Below W.heap.size W w2) := K1.out.trans (k2.mono (by omega))
  have d0 : w2.cell? ⟨W.heap.size, 0, none⟩ = some (.int .i64 n) := (k2.cell (p := ⟨W.heap.size, 0, none⟩) (by show W.heap.size < _; omega)).trans c0
  have d1 : w2.cell? ⟨W.heap.size, 1, none⟩ = some (.int .i64 r) := (k2.cell (p := ⟨W.heap.size, 1, none⟩) (by show W.heap.size < _; omega)).trans c1
  have d2 : w2.cell? ⟨W.heap.size, 2, none⟩ = some (.slice sa sl sc) := (k2.cell (p := ⟨W.heap.size, 2, none⟩) (by show W.heap.size < _; omega)).trans c2
  clear k2 c0 c1 c2 K1 HCall
  cases v
  · have HS : Hid (Slim c) := hv rfl
    clear hv
    have hcall := Check_any HC.out w2 K2.out (by omega)
    rw [HN.out.1, HN.out.2.1, HN.out.2.2] at hcall
    obtain ⟨f1, f2, hf⟩ : ∃ f1 f2, goF c.flat 0 = (f1, f2) := ⟨_, _, rfl⟩
    rw [hf] at hcall
    have HF : Hid (goF c.flat 0 = (f1, f2)) := hf
    have HCall : Hid (Calls Tryz.prog 7 #[.agg #[.int .i64 n, .int .i64 r, .slice sa sl sc]] w2 fun e w' => e = .returned (.agg #[.int .i64 f1, .int .i64 f2]) ∧ Below w2.heap.size w2 w') := hcall
    clear hcall hf
    go_wp2_with fail
    refine HCall.out.mono ?_
    rintro e w3 ⟨rfl, k3⟩
    have z3 := k3.size
    have K3 : Hid (Below W.heap.size W w3) := K2.out.trans (k3.mono (by omega))
    have e0 : w3.cell? ⟨W.heap.size, 0, none⟩ = some (.int .i64 n) := (k3.cell (p := ⟨W.heap.size, 0, none⟩) (by show W.heap.size < _; omega)).trans d0
    have e1 : w3.cell? ⟨W.heap.size, 1, none⟩ = some (.int .i64 r) := (k3.cell (p := ⟨W.heap.size, 1, none⟩) (by show W.heap.size < _; omega)).trans d1
    have e2 : w3.cell? ⟨W.heap.size, 2, none⟩ = some (.slice sa sl sc) := (k3.cell (p := ⟨W.heap.size, 2, none⟩) (by show W.heap.size < _; omega)).trans d2
    clear k3 d0 d1 d2 K2 HCall
    go_wp2
    obtain ⟨X, hX⟩ : ∃ X, X = w3.alloc (.cells #[.int .i64 f1, .int .i64 f2] 28) := ⟨_, rfl⟩
    rw [← hX]
    have x0 : X.cell? ⟨W.heap.size, 0, none⟩ = some (.int .i64 n) := by rw [hX, cell_old_at _ _ _ (by show W.heap.size < _; omega)]; exact e0
    have x1 : X.cell? ⟨W.heap.size, 1, none⟩ = some (.int .i64 r) := by rw [hX, cell_old_at _ _ _ (by show W.heap.size < _; omega)]; exact e1
    have x2 : X.cell? ⟨W.heap.size, 2, none⟩ = some (.slice sa sl sc) := by rw [hX, cell_old_at _ _ _ (by show W.heap.size < _; omega)]; exact e2
    have y0 : X.cell? ⟨w3.heap.size, 0, none⟩ = some (.int .i64 f1) := by rw [hX, cell_new_at _ _ _ _ _ rfl]; rfl
    have y1 : X.cell? ⟨w3.heap.size, 1, none⟩ = some (.int .i64 f2) := by rw [hX, cell_new_at _ _ _ _ _ rfl]; rfl
    have zX : w3.heap.size < X.heap.size := by rw [hX]; simp
    have KX : Hid (Below W.heap.size W X) := by rw [hX]; exact K3.out.alloc (by omega) _
    clear hX e0 e1 e2 K3
    have hcall := fun w (hb : Below W.heap.size W w) => CertFault_any HC.out HS.out w hb hb.size
    rw [HN.out.1, HN.out.2.1, HN.out.2.2, HF.out] at hcall
    have HCF : Hid (∀ w, Below W.heap.size W w → Calls Tryz.prog 8 #[.agg #[.int .i64 n, .int .i64 r, .slice sa sl sc]] w fun e w' => e = .returned (.agg #[.int .i64 f1, .int .i64 f2]) ∧ Below w.heap.size w w') := hcall
    clear hcall
    by_cases hf0 : f1 = 0
    · subst hf0
      have hall := goF_all _ _ (by rw [HF.out] : (goF c.flat 0).1 = 0)
      obtain ⟨hp1, hp2, hp3⟩ := HC.out.prime hall
      rw [HN.out.1] at hp1 hp2 hp3
      obtain ⟨N, rfl⟩ : ∃ N : Nat, n = N := ⟨n.toNat, by omega⟩
      rw [Int.toNat_natCast] at hp3
      have HP : Hid (Fp N) := hp3
      have HP2 : Hid ((N : Int) ≤ 1000000000000000000) := hp2
      have hp1' : 2 ≤ N := by omega
      clear hall hp2 hp3 hp1
      refine wp_region_G (fun w' => w'.cell? ⟨W.heap.size, 0, none⟩ = some (.int .i64 N) ∧ w'.cell? ⟨W.heap.size, 1, none⟩ = some (.int .i64 r) ∧ w'.cell? ⟨W.heap.size, 2, none⟩ = some (.slice sa sl sc) ∧ w'.cell? ⟨w3.heap.size, 0, none⟩ = some (.int .i64 0) ∧ w'.cell? ⟨w3.heap.size, 1, none⟩ = some (.int .i64 f2)) 14 (by kernel_rfl) ⟨x0, x1, x2, y0, y1⟩ (fun hHeld => ?_)
      refine wpAnyG_take (i := 0) (v := ?v0x1) rfl (by kernel_rfl) (fun _ _ _ h => h) (Or.inl ⟨by rfl, ?y0x1⟩) hHeld ?r0x1
      case y0x1 => (intro wS hSw; obtain ⟨s0, s1, s2, s3, s4⟩ := hSw; go_simp; try with_reducible rfl)
      try simp only [Act.put, List.setIfInBounds_toArray, List.set_cons_zero, List.set_cons_succ]
      refine wpAnyG_take (i := 1) (v := ?v1x2) rfl (by kernel_rfl) (fun _ _ _ h => h) (Or.inl ⟨by rfl, ?y1x2⟩) hHeld ?r1x2
      case y1x2 => (intro wS hSw; obtain ⟨s0, s1, s2, s3, s4⟩ := hSw; go_simp; try with_reducible rfl)
      try simp only [Act.put, List.setIfInBounds_toArray, List.set_cons_zero, List.set_cons_succ]
      refine wpAnyG_one (i := 2) rfl (by kernel_rfl) (fun K hK => ?_)
      go_simp
      refine (HCF.out _ KX.out.drew).mono ?_
      rintro e w5 ⟨rfl, k5⟩
      have k5' : Below X.heap.size X w5 := (Below.refl _ _).drew.trans k5
      have z5 := k5'.size
      have K5 : Hid (Below W.heap.size W w5) := KX.out.trans (k5'.mono (by omega))
      clear hHeld k5
      have hHeld : w5.cell? ⟨W.heap.size, 0, none⟩ = some (.int .i64 N) ∧ w5.cell? ⟨W.heap.size, 1, none⟩ = some (.int .i64 r) ∧ w5.cell? ⟨W.heap.size, 2, none⟩ = some (.slice sa sl sc) ∧ w5.cell? ⟨w3.heap.size, 0, none⟩ = some (.int .i64 0) ∧ w5.cell? ⟨w3.heap.size, 1, none⟩ = some (.int .i64 f2) :=
        ⟨(k5'.cell (p := ⟨W.heap.size, 0, none⟩) (by show W.heap.size < _; omega)).trans x0, (k5'.cell (p := ⟨W.heap.size, 1, none⟩) (by show W.heap.size < _; omega)).trans x1, (k5'.cell (p := ⟨W.heap.size, 2, none⟩) (by show W.heap.size < _; omega)).trans x2, (k5'.cell (p := ⟨w3.heap.size, 0, none⟩) zX).trans y0, (k5'.cell (p := ⟨w3.heap.size, 1, none⟩) zX).trans y1⟩
      clear k5'
      refine hK.out _ _ hHeld ?_
      clear hK K
      try simp only [Act.put, List.setIfInBounds_toArray, List.set_cons_zero, List.set_cons_succ]
      refine wpAnyG_take (i := 3) (v := .bool true) rfl (by kernel_rfl) (fun _ _ _ h => h) (Or.inl ⟨by kernel_rfl, ?y3x3⟩) hHeld ?r3x3
      case y3x3 => (intro wS hSw; (go_simp))
      try simp only [Act.put, List.setIfInBounds_toArray, List.set_cons_zero, List.set_cons_succ]
      refine wpAnyG_take (i := 4) (v := .bool true) rfl (by kernel_rfl) (fun _ _ _ h => h) (Or.inl ⟨by kernel_rfl, ?y4x4⟩) hHeld ?r4x4
      case y4x4 => (intro wS hSw; (go_simp))
      try simp only [Act.put, List.setIfInBounds_toArray, List.set_cons_zero, List.set_cons_succ]
      refine wpAnyG_take (i := 5) (v := ?v5x5) rfl (by kernel_rfl) (fun _ _ _ h => h) (Or.inl ⟨by kernel_rfl, ?y5x5⟩) hHeld ?r5x5
      case y5x5 => (intro wS hSw; have s1 := hSw; go_simp; try with_reducible rfl)
      try simp only [Act.put, List.setIfInBounds_toArray, List.set_cons_zero, List.set_cons_succ]
      refine wpAnyG_take (i := 6) (v := ?v6x6) rfl (by kernel_rfl) (fun _ _ _ h => h) (Or.inl ⟨by kernel_rfl, ?y6x6⟩) hHeld ?r6x6
      case y6x6 => (intro wS hSw; have s1 := hSw; go_simp; try with_reducible rfl)
      try simp only [Act.put, List.setIfInBounds_toArray, List.set_cons_zero, List.set_cons_succ]
      refine wpAnyG_take (i := 7) (v := .bool false) rfl (by kernel_rfl) (fun _ _ _ h => h) (Or.inl ⟨by kernel_rfl, ?y7x7⟩) hHeld ?r7x7
      case y7x7 => (intro wS hSw; (go_simp))
      try simp only [Act.put, List.setIfInBounds_toArray, List.set_cons_zero, List.set_cons_succ]
      refine wpAnyG_take (i := 8) (v := .bool false) rfl (by kernel_rfl) (fun _ _ _ h => h) (Or.inl ⟨by kernel_rfl, ?y8x8⟩) hHeld ?r8x8
      case y8x8 => (intro wS hSw; (go_simp))
      try simp only [Act.put, List.setIfInBounds_toArray, List.set_cons_zero, List.set_cons_succ]
      refine wpAnyG_take (i := 9) (v := ?v9x9) rfl (by kernel_rfl) (fun _ _ _ h => h) (Or.inl ⟨by kernel_rfl, ?y9x9⟩) hHeld ?r9x9
      case y9x9 => (intro wS hSw; have s1 := hSw; go_simp; try with_reducible rfl)
      try simp only [Act.put, List.setIfInBounds_toArray, List.set_cons_zero, List.set_cons_succ]
      refine wpAnyG_take (i := 10) (v := ?v10x10) rfl (by kernel_rfl) (fun _ _ _ h => h) (Or.inl ⟨by kernel_rfl, ?y10x10⟩) hHeld ?r10x10
      case y10x10 => (intro wS hSw; have s1 := hSw; go_simp; try with_reducible rfl)
      try simp only [Act.put, List.setIfInBounds_toArray, List.set_cons_zero, List.set_cons_succ]
      refine wpAnyG_one (i := 11) rfl (by kernel_rfl) (fun K hK => ?_)
      rw [if_pos (by kernel_rfl)]
      go_simp
      refine (refIsPrime_yes N _ hp1' HP2.out HP.out).mono ?_
      rintro e w6 ⟨rfl, k6⟩
      have K6 : Hid (Below W.heap.size W w6) := K5.out.trans (k6.mono K5.out.size)
      obtain ⟨g0, g1, g2, g3, g4⟩ := hHeld
      have hHeld : w6.cell? ⟨W.heap.size, 0, none⟩ = some (.int .i64 N) ∧ w6.cell? ⟨W.heap.size, 1, none⟩ = some (.int .i64 r) ∧ w6.cell? ⟨W.heap.size, 2, none⟩ = some (.slice sa sl sc) ∧ w6.cell? ⟨w3.heap.size, 0, none⟩ = some (.int .i64 0) ∧ w6.cell? ⟨w3.heap.size, 1, none⟩ = some (.int .i64 f2) :=
        ⟨(k6.cell (p := ⟨W.heap.size, 0, none⟩) (by show W.heap.size < _; omega)).trans g0, (k6.cell (p := ⟨W.heap.size, 1, none⟩) (by show W.heap.size < _; omega)).trans g1, (k6.cell (p := ⟨W.heap.size, 2, none⟩) (by show W.heap.size < _; omega)).trans g2, (k6.cell (p := ⟨w3.heap.size, 0, none⟩) (by show w3.heap.size < _; omega)).trans g3, (k6.cell (p := ⟨w3.heap.size, 1, none⟩) (by show w3.heap.size < _; omega)).trans g4⟩
      clear k6 g0 g1 g2 g3 g4
      refine hK.out _ _ hHeld ?_
      clear hK K
      try simp only [Act.put, List.setIfInBounds_toArray, List.set_cons_zero, List.set_cons_succ]
      refine wpAnyG_take (i := 12) (v := .bool true) rfl (by kernel_rfl) (fun _ _ _ h => h) (Or.inl ⟨by kernel_rfl, ?y12x11⟩) hHeld ?r12x11
      case y12x11 => (intro wS hSw; (go_simp))
      try simp only [Act.put, List.setIfInBounds_toArray, List.set_cons_zero, List.set_cons_succ]
      refine wpAnyG_take (i := 13) (v := .bool true) rfl (by kernel_rfl) (fun _ _ _ h => h) (Or.inl ⟨by kernel_rfl, ?y13x12⟩) hHeld ?r13x12
      case y13x12 => (intro wS hSw; (go_simp))
      try simp only [Act.put, List.setIfInBounds_toArray, List.set_cons_zero, List.set_cons_succ]
      refine wpAnyG_last (i := 14) rfl (by kernel_rfl) (by kernel_rfl) (fun K hK => ?_)
      go_simp
      refine hK.out _ _ ?_
      clear hK K
      try simp only [Act.put, List.setIfInBounds_toArray, List.set_cons_zero, List.set_cons_succ]
      refine wpAnyG_done (by kernel_rfl) ?_ _
      go_wp2
      go_ret
      exact ⟨rfl, K6.out⟩
    · have hfb : (f1 != 0) = true := by rw [bne_iff_ne]; exact hf0
      refine wp_region_G (fun w' => w'.cell? ⟨W.heap.size, 0, none⟩ = some (.int .i64 n) ∧ w'.cell? ⟨W.heap.size, 1, none⟩ = some (.int .i64 r) ∧ w'.cell? ⟨W.heap.size, 2, none⟩ = some (.slice sa sl sc) ∧ w'.cell? ⟨w3.heap.size, 0, none⟩ = some (.int .i64 f1) ∧ w'.cell? ⟨w3.heap.size, 1, none⟩ = some (.int .i64 f2)) 14 (by kernel_rfl) ⟨x0, x1, x2, y0, y1⟩ (fun hHeld => ?_)
      refine wpAnyG_take (i := 0) (v := ?v0x13) rfl (by kernel_rfl) (fun _ _ _ h => h) (Or.inl ⟨by rfl, ?y0x13⟩) hHeld ?r0x13
      case y0x13 => (intro wS hSw; obtain ⟨s0, s1, s2, s3, s4⟩ := hSw; go_simp; try with_reducible rfl)
      try simp only [Act.put, List.setIfInBounds_toArray, List.set_cons_zero, List.set_cons_succ]
      refine wpAnyG_take (i := 1) (v := ?v1x14) rfl (by kernel_rfl) (fun _ _ _ h => h) (Or.inl ⟨by rfl, ?y1x14⟩) hHeld ?r1x14
      case y1x14 => (intro wS hSw; obtain ⟨s0, s1, s2, s3, s4⟩ := hSw; go_simp; try with_reducible rfl)
      try simp only [Act.put, List.setIfInBounds_toArray, List.set_cons_zero, List.set_cons_succ]
      refine wpAnyG_one (i := 2) rfl (by kernel_rfl) (fun K hK => ?_)
      go_simp
      refine (HCF.out _ KX.out.drew).mono ?_
      rintro e w5 ⟨rfl, k5⟩
      have k5' : Below X.heap.size X w5 := (Below.refl _ _).drew.trans k5
      have z5 := k5'.size
      have K5 : Hid (Below W.heap.size W w5) := KX.out.trans (k5'.mono (by omega))
      clear hHeld k5
      have hHeld : w5.cell? ⟨W.heap.size, 0, none⟩ = some (.int .i64 n) ∧ w5.cell? ⟨W.heap.size, 1, none⟩ = some (.int .i64 r) ∧ w5.cell? ⟨W.heap.size, 2, none⟩ = some (.slice sa sl sc) ∧ w5.cell? ⟨w3.heap.size, 0, none⟩ = some (.int .i64 f1) ∧ w5.cell? ⟨w3.heap.size, 1, none⟩ = some (.int .i64 f2) :=
        ⟨(k5'.cell (p := ⟨W.heap.size, 0, none⟩) (by show W.heap.size < _; omega)).trans x0, (k5'.cell (p := ⟨W.heap.size, 1, none⟩) (by show W.heap.size < _; omega)).trans x1, (k5'.cell (p := ⟨W.heap.size, 2, none⟩) (by show W.heap.size < _; omega)).trans x2, (k5'.cell (p := ⟨w3.heap.size, 0, none⟩) zX).trans y0, (k5'.cell (p := ⟨w3.heap.size, 1, none⟩) zX).trans y1⟩
      clear k5'
      refine hK.out _ _ hHeld ?_
      clear hK K
      try simp only [Act.put, List.setIfInBounds_toArray, List.set_cons_zero, List.set_cons_succ]
      refine wpAnyG_take (i := 3) (v := .bool true) rfl (by kernel_rfl) (fun _ _ _ h => h) (Or.inl ⟨by kernel_rfl, ?y3x15⟩) hHeld ?r3x15
      case y3x15 => (intro wS hSw; (go_simp))
      try simp only [Act.put, List.setIfInBounds_toArray, List.set_cons_zero, List.set_cons_succ]
      refine wpAnyG_take (i := 4) (v := .bool true) rfl (by kernel_rfl) (fun _ _ _ h => h) (Or.inl ⟨by kernel_rfl, ?y4x16⟩) hHeld ?r4x16
      case y4x16 => (intro wS hSw; (go_simp))
      try simp only [Act.put, List.setIfInBounds_toArray, List.set_cons_zero, List.set_cons_succ]
      refine wpAnyG_take (i := 5) (v := ?v5x17) rfl (by kernel_rfl) (fun _ _ _ h => h) (Or.inl ⟨by kernel_rfl, ?y5x17⟩) hHeld ?r5x17
      case y5x17 => (intro wS hSw; have s1 := hSw; go_simp; try with_reducible rfl)
      try simp only [Act.put, List.setIfInBounds_toArray, List.set_cons_zero, List.set_cons_succ]
      refine wpAnyG_take (i := 6) (v := ?v6x18) rfl (by kernel_rfl) (fun _ _ _ h => h) (Or.inl ⟨by kernel_rfl, ?y6x18⟩) hHeld ?r6x18
      case y6x18 => (intro wS hSw; have s1 := hSw; go_simp; try with_reducible rfl)
      try simp only [Act.put, List.setIfInBounds_toArray, List.set_cons_zero, List.set_cons_succ]
      refine wpAnyG_take (i := 7) (v := .bool true) rfl (by kernel_rfl) (fun _ _ _ h => h) (Or.inl ⟨by kernel_rfl, ?y7x19⟩) hHeld ?r7x19
      case y7x19 => (intro wS hSw; (go_simp; try rw [hfb]))
      try simp only [Act.put, List.setIfInBounds_toArray, List.set_cons_zero, List.set_cons_succ]
      refine wpAnyG_take (i := 8) (v := .bool true) rfl (by kernel_rfl) (fun _ _ _ h => h) (Or.inl ⟨by kernel_rfl, ?y8x20⟩) hHeld ?r8x20
      case y8x20 => (intro wS hSw; (go_simp))
      try simp only [Act.put, List.setIfInBounds_toArray, List.set_cons_zero, List.set_cons_succ]
      refine wpAnyG_take (i := 9) (v := undef) rfl (by kernel_rfl) (fun _ _ _ h => h) (Or.inr ⟨by kernel_rfl, rfl⟩) hHeld ?_
      try simp only [Act.put, List.setIfInBounds_toArray, List.set_cons_zero, List.set_cons_succ]
      refine wpAnyG_take (i := 10) (v := undef) rfl (by kernel_rfl) (fun _ _ _ h => h) (Or.inr ⟨by kernel_rfl, rfl⟩) hHeld ?_
      try simp only [Act.put, List.setIfInBounds_toArray, List.set_cons_zero, List.set_cons_succ]
      refine wpAnyG_take (i := 11) (v := undef) rfl (by kernel_rfl) (fun _ _ _ h => h) (Or.inr ⟨by kernel_rfl, rfl⟩) hHeld ?_
      try simp only [Act.put, List.setIfInBounds_toArray, List.set_cons_zero, List.set_cons_succ]
      refine wpAnyG_take (i := 12) (v := .bool true) rfl (by kernel_rfl) (fun _ _ _ h => h) (Or.inl ⟨by kernel_rfl, ?y12x21⟩) hHeld ?r12x21
      case y12x21 => (intro wS hSw; (go_simp))
      try simp only [Act.put, List.setIfInBounds_toArray, List.set_cons_zero, List.set_cons_succ]
      refine wpAnyG_take (i := 13) (v := .bool true) rfl (by kernel_rfl) (fun _ _ _ h => h) (Or.inl ⟨by kernel_rfl, ?y13x22⟩) hHeld ?r13x22
      case y13x22 => (intro wS hSw; (go_simp))
      try simp only [Act.put, List.setIfInBounds_toArray, List.set_cons_zero, List.set_cons_succ]
      refine wpAnyG_last (i := 14) rfl (by kernel_rfl) (by kernel_rfl) (fun K hK => ?_)
      go_simp
      refine hK.out _ _ ?_
      clear hK K
      try simp only [Act.put, List.setIfInBounds_toArray, List.set_cons_zero, List.set_cons_succ]
      refine wpAnyG_done (by kernel_rfl) ?_ _
      go_wp2
      go_ret
      exact ⟨rfl, K5.out⟩
  · clear hv
    go_wp2
    go_ret
    exact ⟨rfl, K2.out⟩

end Go.Proofs.YtknmfohipdjlpabGreatDoor.certChecks
