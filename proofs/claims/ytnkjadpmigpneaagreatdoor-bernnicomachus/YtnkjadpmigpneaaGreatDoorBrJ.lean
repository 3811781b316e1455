import Derived.Test.YtnkjadpmigpneaaGreatDoorJpS
import Derived.Test.YtnkjadpmigpneaaGreatDoorBrF
set_option linter.unusedSimpArgs false
set_option linter.unusedVariables false
set_option maxRecDepth 100000
namespace Go.Proofs.YtnkjadpmigpneaaGreatDoor
open Go.RowKit LgM
theorem num_text (n : Nat) (hn : n ≤ 200) : ftx (BN.bz n n) (BN.prm (n + 1)) = vtx (bnv n) := by
  rw [ftx_vtx _ _ (BN.prm_pos _)]
  congr 1
  unfold bnv
  have h := BN.bz_mul (n := n) (j := n) (Nat.le_refl _) hn
  exact (rv_eq (by have := BN.prm_pos (n + 1); omega) dN_pos).2 h
set_option maxHeartbeats 4000000 in
theorem Number_ok (nN : Nat) (w : World) (hn : nN ≤ 200) (hT : Tb w) (hQ : Tq w) :
    Calls Tryz.prog 7 #[.int .i64 (nN : Int)] w fun e w' => e = .returned (.tuple #[.string ⟨(vtx (bnv nN)).toArray⟩, .agg #[.int .i64 0, .int .i64 0]]) ∧ Below w.heap.size w w' := by
  have HB : Hid (∀ W : World, Calls Tryz.prog 35 #[.int .i64 0, .int .i64 200, .slice (some ⟨W.heap.size, 0, none⟩) 1 1] (W.alloc (.cells #[.int .i64 (nN : Int)] 3)) fun e w' => e = .returned (.agg #[.int .i64 0, .int .i64 0]) ∧ Below (W.heap.size + 1) (W.alloc (.cells #[.int .i64 (nN : Int)] 3)) w') := fun W => by
    have := between_any 0 200 [(nN : Int)] W.heap.size 0 1 (W.alloc (.cells #[.int .i64 (nN : Int)] 3)) (by simp) (by simp) (one_cellB _ W)
    rw [nb_oneB, if_pos (by omega)] at this
    simpa using this
  have HCn : Hid (∀ W, Below w.heap.size w W → Calls Tryz.prog 36 #[.int .i64 (nN : Int)] W fun e w' => ∃ v u, e = .returned (.tuple #[v, .agg #[u, .bool false]]) ∧ SO W.heap.size w' v (nN + 1) (BN.bz nN) ∧ LN w' u (BN.prm (nN + 1)) ∧ Below W.heap.size W w') := fun W kk => numbers_any nN W hn (hT.below kk)
  obtain ⟨st, hst⟩ : ∃ st : ByteArray, st = ⟨(vtx (bnv nN)).toArray⟩ := ⟨_, rfl⟩
  obtain ⟨z, hz⟩ : ∃ z, z = decide (BN.bz nN nN < 0) := ⟨_, rfl⟩
  have HSt : Hid (∀ (v u : Value) (W : World), LN W v (BN.bz nN nN).natAbs → LN W u (BN.prm (nN + 1)) → Below w.heap.size w W → Calls Tryz.prog 37 #[.agg #[v, .bool z], .agg #[u, .bool false]] W fun e w' => e = .returned (.string st) ∧ Below W.heap.size W w') := fun v u W h1 h2 kk => by
    rw [hst, hz, ← num_text nN hn]
    exact fraction_any v u (BN.bz nN nN) (BN.prm (nN + 1)) 36 W h1 h2 (BN.prm_pos _) (bz_bs (Nat.le_refl _) hn) (Nat.lt_of_lt_of_le (prm_bs (by omega)) (Nat.pow_le_pow_right (by decide) (by decide))) (by omega) (by omega) (hQ.below kk)
  have HZ : Hid (z = decide (BN.bz nN nN < 0)) := hz
  rw [← hst]
  obtain ⟨N1, hN1⟩ : ∃ N1, N1 = nN + 1 := ⟨_, rfl⟩
  have HN1 : Hid (N1 = nN + 1) := hN1
  have hnN1 : nN < N1 := by omega
  rw [← hN1] at HCn
  clear hT hQ hst hz hN1
  go_enter Tryz.func7, Tryz.ntmps7
  obtain ⟨W0, hW0⟩ : ∃ W, w.alloc (.cells #[.int .i64 0, .int .i64 0] 23) = W := ⟨_, rfl⟩
  have S0 := Sv.new 0 0 w
  have k0 := bel_oneB w (.cells #[.int .i64 0, .int .i64 0] 23)
  have z0 : W0.heap.size = w.heap.size + 1 := by rw [← hW0]; simp
  rw [hW0] at S0 k0
  go_wp2_with fail
  rw [← z0]
  refine (HB.out W0).mono ?_
  rintro e w1 ⟨rfl, hb⟩
  have k1 : Below W0.heap.size W0 (W0.alloc (.cells #[.int .i64 (nN : Int)] 3)) := bel_oneB W0 _
  have k2 : Below w.heap.size w w1 := (k0.trans (k1.mono (by omega))).trans (hb.mono (by omega))
  have S1 : Sv w.heap.size 0 0 w1 := (S0.below k1).below (hb.mono (by simp))
  have HS1 : Hid (Sv w.heap.size 0 0 w1 ∧ Below w.heap.size w w1) := ⟨S1, k2⟩
  clear HB hb k1 k2 k0 hW0 z0 S1 S0
  go_wp2_with fail
  obtain ⟨W2, hW2⟩ : ∃ W2, W2 = w1.alloc (.cells #[.int .i64 0, .int .i64 0] 23) := ⟨_, rfl⟩
  rw [← hW2]
  have HS2 : Hid (Sv w.heap.size 0 0 W2 ∧ Below w.heap.size w W2) := by
    show _ ∧ _
    rw [hW2]
    exact ⟨HS1.out.1.alloc _ _, Below.alloc HS1.out.2 HS1.out.2.size _⟩
  clear hW2
  refine (HCn.out W2 HS2.out.2).mono ?_
  rintro e w3 ⟨v3, u3, rfl, so3, l3, k3⟩
  obtain ⟨a3, m3, c3, rfl⟩ := l3.shape
  obtain ⟨gb, ob, cb, rfl, hgb, hbl⟩ := so3.va.look (by omega)
  obtain ⟨W4, hW4⟩ : ∃ W4, W4 = w3.alloc (.cells #[.slice a3 m3 c3, .bool false] 66) := ⟨_, rfl⟩
  have k4 : Below w3.heap.size w3 W4 := by rw [hW4]; exact (Below.refl _ _).alloc (Nat.le_refl _) _
  obtain ⟨b6, hb6⟩ : ∃ b6, b6 = w3.heap.size := ⟨_, rfl⟩
  have C6 : Cl b6 [.slice a3 m3 c3, .bool false] 66 W4 := by rw [hW4, hb6]; exact Cl.new _ _ _
  obtain ⟨xa, xk, xc, q1, q2, lx⟩ := hbl W4 k4 nN hnN1
  rw [← HZ.out] at q2
  have HS4 : Hid (Sv w.heap.size 0 0 W4 ∧ Below w.heap.size w W4 ∧ LN W4 (.slice a3 m3 c3) (BN.prm (nN + 1)) ∧ LN W4 (.slice xa xk xc) (BN.bz nN nN).natAbs) :=
    ⟨(HS2.out.1.below k3).below k4, (HS2.out.2.trans (k3.mono HS2.out.2.size)).trans (k4.mono (Nat.le_trans HS2.out.2.size k3.size)), by rw [← HN1.out]; exact l3.below k4, lx⟩
  have HK : Hid (∀ W, Below W4.heap.size W4 W → (W.cell? ⟨b6, 0, none⟩ = some (.slice a3 m3 c3) ∧ W.cell? ⟨b6, 1, none⟩ = some (.bool false)) ∧ W.cell? ⟨gb, ob + nN * 2, none⟩ = some (.slice xa xk xc) ∧ W.cell? ⟨gb, ob + nN * 2 + 1, none⟩ = some (.bool z)) := fun W kk => by
    have hg := Nat.lt_of_lt_of_le hgb k4.size
    have d1 := C6.below kk
    have e1 := d1.cell 0
    have e2 := d1.cell 1
    simp at e1 e2
    exact ⟨⟨e1, e2⟩, (kk.cell (p := ⟨gb, ob + nN * 2, none⟩) hg).trans q1, (kk.cell (p := ⟨gb, ob + nN * 2 + 1, none⟩) hg).trans q2⟩
  clear HS1 HS2 so3 l3 k3 hgb hbl k4 C6 q1 q2 lx HCn
  go_wp2
  rw [← hW4]
  rw [← hb6]
  clear hW4 hb6
  refine wp_region_G (fun W => (W.cell? ⟨b6, 0, none⟩ = some (.slice a3 m3 c3) ∧ W.cell? ⟨b6, 1, none⟩ = some (.bool false)) ∧ W.cell? ⟨gb, ob + nN * 2, none⟩ = some (.slice xa xk xc) ∧ W.cell? ⟨gb, ob + nN * 2 + 1, none⟩ = some (.bool z)) 8 (by kernel_rfl) (HK.out _ (Below.refl _ _).drew) (fun hHeld => ?_)
  refine wpAnyG_take (i := 0) (v := ?v0x1) rfl (by kernel_rfl) (fun _ _ _ h => h) (Or.inl ⟨by rfl, ?y0x1⟩) hHeld ?r0x1
  case y0x1 => (intro wS hSw; obtain ⟨⟨s1, s2⟩, s3, s4⟩ := hSw; go_simp; try with_reducible rfl)
  simp only [Act.put, List.getElem_toArray, List.getElem_cons_zero, List.getElem_cons_succ, List.setIfInBounds_toArray, List.set_cons_zero, List.set_cons_succ]
  refine wpAnyG_take (i := 1) (v := ?v1x2) rfl (by kernel_rfl) (fun _ _ _ h => h) (Or.inl ⟨by rfl, ?y1x2⟩) hHeld ?r1x2
  case y1x2 => (intro wS hSw; obtain ⟨⟨s1, s2⟩, s3, s4⟩ := hSw; go_simp; try with_reducible rfl)
  simp only [Act.put, List.getElem_toArray, List.getElem_cons_zero, List.getElem_cons_succ, List.setIfInBounds_toArray, List.set_cons_zero, List.set_cons_succ]
  refine wpAnyG_take (i := 2) (v := ?v2x3) rfl (by kernel_rfl) (fun _ _ _ h => h) (Or.inl ⟨by rfl, ?y2x3⟩) hHeld ?r2x3
  case y2x3 => (intro wS hSw; obtain ⟨⟨s1, s2⟩, s3, s4⟩ := hSw; go_simp; try with_reducible rfl)
  simp only [Act.put, List.getElem_toArray, List.getElem_cons_zero, List.getElem_cons_succ, List.setIfInBounds_toArray, List.set_cons_zero, List.set_cons_succ]
  refine wpAnyG_take (i := 3) (v := ?v3x4) rfl (by kernel_rfl) (fun _ _ _ h => h) (Or.inl ⟨by rfl, ?y3x4⟩) hHeld ?r3x4
  case y3x4 => (intro wS hSw; obtain ⟨⟨s1, s2⟩, s3, s4⟩ := hSw; go_simp; try with_reducible rfl)
  simp only [Act.put, List.getElem_toArray, List.getElem_cons_zero, List.getElem_cons_succ, List.setIfInBounds_toArray, List.set_cons_zero, List.set_cons_succ]
  refine wpAnyG_take (i := 4) (v := ?v4x5) rfl (by kernel_rfl) (fun _ _ _ h => h) (Or.inl ⟨by rfl, ?y4x5⟩) hHeld ?r4x5
  case y4x5 => (intro wS hSw; obtain ⟨⟨s1, s2⟩, s3, s4⟩ := hSw; go_simp; try with_reducible rfl)
  simp only [Act.put, List.getElem_toArray, List.getElem_cons_zero, List.getElem_cons_succ, List.setIfInBounds_toArray, List.set_cons_zero, List.set_cons_succ]
  refine wpAnyG_take (i := 6) (v := ?v6x6) rfl (by kernel_rfl) (fun _ _ _ h => h) (Or.inl ⟨by rfl, ?y6x6⟩) hHeld ?r6x6
  case y6x6 => (intro wS hSw; obtain ⟨⟨s1, s2⟩, s3, s4⟩ := hSw; go_simp; try with_reducible rfl)
  simp only [Act.put, List.getElem_toArray, List.getElem_cons_zero, List.getElem_cons_succ, List.setIfInBounds_toArray, List.set_cons_zero, List.set_cons_succ]
  refine wpAnyG_one (i := 5) rfl (by kernel_rfl) (fun K hK => ?_)
  go_simp
  refine (HSt.out _ _ _ (HS4.out.2.2.2.below (Below.refl _ _).drew) (HS4.out.2.2.1.below (Below.refl _ _).drew) (HS4.out.2.1.trans ((Below.refl _ _).drew.mono HS4.out.2.1.size))).mono ?_
  rintro e w5 ⟨rfl, k5⟩
  have HK5 : Hid (Below W4.heap.size W4 w5) := (Below.refl _ _).drew.trans k5
  clear k5
  refine hK.out _ _ (HK.out _ HK5.out) ?_
  clear hK K hHeld
  have hHeld := HK.out _ HK5.out
  refine wpAnyG_take (i := 7) (v := ?v7x7) rfl (by kernel_rfl) (fun _ _ _ h => h) (Or.inl ⟨by rfl, ?y7x7⟩) hHeld ?r7x7
  case y7x7 => (intro wS hSw; obtain ⟨⟨s1, s2⟩, s3, s4⟩ := hSw; go_simp; try with_reducible rfl)
  simp only [Act.put, List.getElem_toArray, List.getElem_cons_zero, List.getElem_cons_succ, List.setIfInBounds_toArray, List.set_cons_zero, List.set_cons_succ]
  obtain ⟨q0, q1, q2, q3, hz⟩ := HS4.out.1.below HK5.out
  refine wpAnyG_last (i := 8) rfl (by kernel_rfl) (by kernel_rfl) (fun K hK => ?_)
  go_simp
  refine hK.out _ _ ?_
  clear hK K
  refine wpAnyG_done (by kernel_rfl) ?_ _
  clear hHeld
  have HK6 : Hid (Below w.heap.size w w5) := HS4.out.2.1.trans (HK5.out.mono HS4.out.2.1.size)
  go_wp2
  refine bodyPost_ret (v := .tuple #[.string st, .agg #[.int .i64 0, .int .i64 0]]) (by simp [results, Tryz.results7, go_sem, q0, q1, hz]) rfl ⟨rfl, ?_⟩
  exact Below.setCell (Below.setCell HK6.out (Nat.le_refl _) _) (Nat.le_refl _) _
end Go.Proofs.YtnkjadpmigpneaaGreatDoor
