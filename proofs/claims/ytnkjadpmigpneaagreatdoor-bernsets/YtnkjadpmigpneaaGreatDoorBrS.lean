import Derived.Test.YtnkjadpmigpneaaGreatDoorJpT
set_option linter.unusedSimpArgs false
set_option linter.unusedVariables false
set_option maxRecDepth 100000
namespace Go.Proofs.YtnkjadpmigpneaaGreatDoor
open Go.RowKit LgM
theorem st_over : ∀ n k : Nat, n < k → BN.st n k = 0
  | 0, k + 1, _ => rfl
  | n + 1, k + 1, h => by
    show (k + 1) * BN.st n (k + 1) + BN.st n k = 0
    rw [st_over n (k + 1) (by omega), st_over n k (by omega), Nat.mul_zero]
theorem st_same : ∀ n : Nat, BN.st n n = 1
  | 0 => rfl
  | n + 1 => by
    show (n + 1) * BN.st n (n + 1) + BN.st n n = 1
    rw [st_over n (n + 1) (by omega), st_same n]
    omega
theorem st_bs {n k : Nat} (hn : n ≤ 200) (hk : k ≤ 200) : BN.st n k < Bs ^ 70 := by
  have h := BN.sm_pw hn hk (Nat.le_refl (k + 1))
  have e : BN.sm (BN.tm n k) (k + 1) = ((BN.fac k * BN.st n k : Nat) : Int) := BN.al_is n k
  rw [e, Int.natAbs_natCast] at h
  have h2 := Nat.lt_of_le_of_lt (Nat.le_mul_of_pos_left (BN.st n k) (BN.fac_pos k)) h
  exact Nat.lt_of_lt_of_le h2 (by decide +kernel)
structure Nr (b N : Nat) (f : Nat → Nat) (w : World) : Prop where
  ex : ∃ cells : List Value, Cl b cells 64 w ∧ cells.length = N ∧ (∀ u ∈ cells, NI u) ∧ ∀ j, j < N → ∃ sa sk sc, cells[j]? = some (.slice sa sk sc) ∧ LN w (.slice sa sk sc) (f j)
theorem Nr.below {b N : Nat} {f : Nat → Nat} {w w' : World} (h : Nr b N f w) (k : Below w.heap.size w w') : Nr b N f w' := by
  obtain ⟨cells, h1, h2, h3, h4⟩ := h.ex
  refine ⟨cells, h1.below k, h2, h3, fun j hj => ?_⟩
  obtain ⟨sa, sk, sc, c1, c3⟩ := h4 j hj
  exact ⟨sa, sk, sc, c1, c3.below k⟩
theorem Nr.lt {b N : Nat} {f : Nat → Nat} {w : World} (h : Nr b N f w) : b < w.heap.size := by
  obtain ⟨cells, h1, _⟩ := h.ex
  exact h1.lt
theorem Nr.get {b N j : Nat} {f : Nat → Nat} {w : World} (h : Nr b N f w) (hj : j < N) : ∃ sa sk sc, w.cell? ⟨b, j, none⟩ = some (.slice sa sk sc) ∧ w.frozen? ⟨b, j, none⟩ = false ∧ LN w (.slice sa sk sc) (f j) := by
  obtain ⟨cells, h1, h2, h3, h4⟩ := h.ex
  obtain ⟨sa, sk, sc, c1, c3⟩ := h4 j hj
  exact ⟨sa, sk, sc, (h1.cell _).trans c1, h1.frozen _, c3⟩
theorem Nr.put {b N i : Nat} {f : Nat → Nat} {w : World} (h : Nr b N f w) (hi : i < N) (sa : Option Addr) (sk sc : Nat) (y : Nat) (hn : LN w (.slice sa sk sc) y) (f' : Nat → Nat) (e1 : f' i = y) (e2 : ∀ j, j < N → j ≠ i → f' j = f j) :
    Nr b N f' (w.setCell ⟨b, i, none⟩ (.slice sa sk sc)) ∧ ∀ v n, LN w v n → LN (w.setCell ⟨b, i, none⟩ (.slice sa sk sc)) v n := by
  obtain ⟨cells, h1, h2, h3, h4⟩ := h.ex
  have hk : ∀ v n, LN w v n → LN (w.setCell ⟨b, i, none⟩ (.slice sa sk sc)) v n := fun v n hv => hv.setB h1 h3 _
  refine ⟨⟨cells.set i (.slice sa sk sc), h1.set _ _, by simp [h2], fun u hu => ?_, fun j hj => ?_⟩, hk⟩
  · rcases List.mem_or_eq_of_mem_set hu with hu | rfl
    · exact h3 u hu
    · exact ni_slice _ _ _
  · by_cases e : j = i
    · subst e
      rw [e1]
      exact ⟨sa, sk, sc, by rw [List.getElem?_set_self (by omega)], hk _ _ hn⟩
    · obtain ⟨ta, tk, tc, c1, c3⟩ := h4 j hj
      rw [e2 j hj e]
      exact ⟨ta, tk, tc, by rw [List.getElem?_set_ne (by omega)]; exact c1, hk _ _ c3⟩
theorem Nr.congr {b N : Nat} {f g : Nat → Nat} {w : World} (h : Nr b N f w) (e : ∀ j, j < N → g j = f j) : Nr b N g w := by
  obtain ⟨cells, h1, h2, h3, h4⟩ := h.ex
  exact ⟨cells, h1, h2, h3, fun j hj => by rw [e j hj]; exact h4 j hj⟩
theorem nr_mk {w' : World} {b N : Nat} (h : w'.ownsRow b 64 1 (.slice (some ⟨b, 0, none⟩) N N) N (madeCells #[Value.slice none 0 0] (N * 1)).toList) : Nr b N (fun _ => 0) w' := by
  obtain ⟨h1, h2 | ⟨g, cap, cur, e1, e2, e3, e4, e5, e6, e7⟩⟩ := h
  · obtain ⟨h2, rfl⟩ := h2
    simp at h2
  · simp at e1
    obtain ⟨rfl, rfl⟩ := e1
    have hc : cur.toList = (madeCells #[Value.slice none 0 0] (N * 1)).toList := by
      rw [← e7, List.take_of_length_le (by simp; omega)]
    have hall : ∀ j, j < N → cur.toList[j]? = some (.slice none 0 0) := fun j hj => by
      rw [hc]
      simp [madeCells]
      exact ⟨j, by rw [List.getElem?_range (by omega)], by rw [show j % 1 = 0 by omega]; rfl⟩
    refine ⟨cur.toList, by unfold Cl; rw [e3], by simpa using e6, fun u hu => ?_, fun j hj => ⟨none, 0, 0, hall j hj, LN.zero _⟩⟩
    obtain ⟨j, hj, e⟩ := List.getElem_of_mem hu
    have hjN : j < N := by have : cur.toList.length = N := by simpa using e6
                           omega
    have := hall j hjN
    rw [List.getElem?_eq_getElem hj] at this
    rw [← e, Option.some.inj this]
    exact ni_slice _ _ _
def wy (a i j : Nat) : Nat := if j ≤ i then BN.st (a + 1 + j) (a + 1) else BN.st (a + j) a
theorem wy_start (a j : Nat) : wy a 0 j = BN.st (a + j) a := by
  unfold wy
  by_cases h : j ≤ 0
  · obtain rfl : j = 0 := by omega
    rw [if_pos (Nat.le_refl _), Nat.add_zero, st_same]
    exact (st_same a).symm
  · rw [if_neg h]
theorem wy_end {a s j : Nat} (h : j ≤ s) : wy a s j = BN.st (a + 1 + j) (a + 1) := by
  unfold wy; rw [if_pos h]
theorem wy_at (a i : Nat) : wy a (i + 1) (i + 1) = wy a i (i + 1) + wy a i i * (a + 1) := by
  unfold wy
  rw [if_pos (Nat.le_refl _), if_neg (by omega), if_pos (Nat.le_refl _)]
  show (a + 1) * BN.st (a + 1 + i) (a + 1) + BN.st (a + 1 + i) a = _
  rw [show a + (i + 1) = a + 1 + i by omega, Nat.mul_comm]
  omega
theorem wy_other {a i j : Nat} (h : j ≠ i + 1) : wy a (i + 1) j = wy a i j := by
  unfold wy
  by_cases e : j ≤ i
  · rw [if_pos e, if_pos (by omega)]
  · rw [if_neg e, if_neg (by omega)]
theorem wy_bs {a i j : Nat} (h : a + 1 + j ≤ 200) : wy a i j < Bs ^ 70 := by
  unfold wy
  split
  · exact st_bs (by omega) (by omega)
  · exact st_bs (by omega) (by omega)
theorem Tryz.undNum : Tryz.prog.underlying 114 = some (.slice 64) := by kernel_rfl
theorem Tryz.infoNumS : (Tryz.prog.info? 64).map (fun i => (i.zero, i.size, i.bytes)) = some (some (.agg #[.slice none 0 0]), 1, 24) := by kernel_rfl
set_option maxHeartbeats 8000000 in
theorem sets_any (nN kN : Nat) (w : World) (hn : nN ≤ 200) (hk : kN ≤ 200) :
    Calls Tryz.prog 67 #[.int .i64 (nN : Int), .int .i64 (kN : Int)] w fun e w' => ∃ u, e = .returned (.agg #[u]) ∧ LN w' u (BN.st nN kN) ∧ Below w.heap.size w w' := by
  obtain ⟨i0, hi, hz0, hz1, hz2⟩ := info_parts Tryz.infoNumS
  have HI : Hid (Tryz.prog.info? 64 = some i0 ∧ i0.zero = some (.agg #[.slice none 0 0]) ∧ i0.size = 1 ∧ i0.bytes = 24) := ⟨hi, hz0, hz1, hz2⟩
  clear hi hz0 hz1 hz2
  obtain ⟨W0, hW0⟩ : ∃ W0, W0 = w.alloc (.cells #[.slice none 0 0] 64) := ⟨_, rfl⟩
  have H0 : Hid (Cl w.heap.size [.slice none 0 0] 64 W0 ∧ Below w.heap.size w W0 ∧ W0.heap.size = w.heap.size + 1) := by
    show _ ∧ _
    rw [hW0]
    exact ⟨Cl.new _ _ _, (Below.refl _ _).alloc (Nat.le_refl _) _, by simp⟩
  by_cases hkn : nN < kN
  · have d0 : decide ((nN : Int) < (kN : Int)) = true := decide_eq_true (by omega)
    have e : BN.st nN kN = 0 := st_over nN kN hkn
    rw [e]
    go_enter Tryz.func67, Tryz.ntmps67
    go_wp2
    have C := H0.out.1
    have q0 := C.cell 0
    rw [hW0] at q0
    simp at q0
    refine bodyPost_ret (v := .agg #[.slice none 0 0]) (by simp [results, Tryz.results67, go_sem, q0]) rfl ⟨_, rfl, LN.zero _, (Below.refl _ _).alloc (Nat.le_refl _) _⟩
  · have d0 : decide ((nN : Int) < (kN : Int)) = false := decide_eq_false (by omega)
    obtain ⟨s, hs⟩ : ∃ s, s = nN - kN := ⟨_, rfl⟩
    have hsi : (nN : Int) - (kN : Int) = (s : Int) := by omega
    have hsl : s ≤ 200 := by omega
    obtain ⟨s1, hs1⟩ : ∃ s1, s1 = s + 1 := ⟨_, rfl⟩
    have hs1i : (s : Int) + 1 = (s1 : Int) := by omega
    have hs1l : s1 ≤ 201 := by omega
    have HS : Hid (s1 = s + 1 ∧ s + kN = nN) := ⟨hs1, by omega⟩
    have hws : IntKind.i64.wrap (s : Int) = (s : Int) := by rw [IntKind.wrap_i64]; omega
    have hws1 : IntKind.i64.wrap (s1 : Int) = (s1 : Int) := by rw [IntKind.wrap_i64]; omega
    clear hs hs1
    go_enter Tryz.func67, Tryz.ntmps67
    go_wp2_with (at_make; refine wpList_make_full _ rfl _ _ 114 rfl W0.heap.size 64 i0 (.agg #[.slice none 0 0]) 1 Tryz.undNum HI.out.1 HI.out.2.1 HI.out.2.2.1 .i64 .i64 _ _ s1 rfl rfl (by omega) (by omega) (by rw [HI.out.2.2.2]; omega) (by unfold maxLen; omega) (by rw [hW0]; exact Nat.le_refl _) ?_)
    intro w1 hown hgrow
    have HW1 : Hid (Nr (w.heap.size + 1) s1 (fun _ => 0) w1 ∧ Below (w.heap.size + 1) W0 w1 ∧ Cl w.heap.size [.slice none 0 0] 64 w1 ∧ Below w.heap.size w w1) := by
      have hg : W0.grownBy w1 none := by rw [hW0]; exact hgrow
      have kk : Below (w.heap.size + 1) W0 w1 := by
        have := (Below.refl W0.heap.size W0).grown hg (Nat.le_refl _) (by simp)
        rw [H0.out.2.2] at this
        exact this
      refine ⟨nr_mk (by simpa using hown), kk, H0.out.1.below (by rw [H0.out.2.2]; exact kk), H0.out.2.1.trans (kk.mono (by omega))⟩
    obtain ⟨bM, hbM⟩ : ∃ bM, bM = w.heap.size + 1 := ⟨_, rfl⟩
    have HbM : Hid (bM = w.heap.size + 1) := hbM
    rw [← hbM] at HW1 ⊢
    clear hown hgrow hW0 hbM
    have HOf : Hid (∀ W, Calls Tryz.prog 80 #[.int .i64 1] W fun e w' => ∃ v, e = .returned (.agg #[v]) ∧ LN w' v 1 ∧ Below W.heap.size W w') := fun W => Of_any 1 W (by omega)
    have hs10 : 0 < s1 := by have := HS.out.1; omega
    go_wp2_with fail
    refine (HOf.out w1).mono ?_
    rintro e w2 ⟨v2, rfl, l2, k2⟩
    obtain ⟨a2, m2, c2, rfl⟩ := l2.shape
    have HN2 : Hid (Nr bM s1 (fun _ => 0) w2) := HW1.out.1.below k2
    obtain ⟨ua, uk, uc, r1, r2, _⟩ := HN2.out.get hs10
    obtain ⟨W3, hW3⟩ : ∃ W3, W3 = w2.setCell ⟨bM, 0, none⟩ (.slice a2 m2 c2) := ⟨_, rfl⟩
    have H3 : Hid (Nr bM s1 (wy 0 0) W3 ∧ Cl w.heap.size [.slice none 0 0] 64 W3 ∧ Below w.heap.size w W3) := by
      show _ ∧ _
      rw [hW3]
      refine ⟨(HN2.out.put hs10 a2 m2 c2 1 l2 (wy 0 0) rfl (fun j _ hj => ?_)).1, (HW1.out.2.2.1.below k2).other (by have := HbM.out; simp; omega) _, ((HW1.out.2.2.2.trans (k2.mono HW1.out.2.2.2.size)).setCell (by have := HbM.out; simp; omega) _)⟩
      rw [wy_start]
      cases j with
      | zero => exact absurd rfl hj
      | succ j => rw [Nat.zero_add]; rfl
    clear l2 k2 HW1 HN2
    go_wp2
    rw [← hW3]
    clear hW3 r1 r2
    go_loopw [23] (fun iv wx => ∃ a : Nat, a ≤ kN ∧ iv = .int .i64 (a : Int) ∧ Hid (Nr bM s1 (wy a 0) wx ∧ Cl w.heap.size [.slice none 0 0] 64 wx ∧ Below w.heap.size w wx)) (fun iv _ => kN - (intOf iv).toNat)
    case atStart => exact ⟨0, Nat.zero_le _, rfl, H3.out⟩
    case round =>
      clear H3
      obtain ⟨a, han, rfl, HR⟩ := hrel
      by_cases hlt : a < kN
      · have HA : Hid (a < kN) := hlt
        go_wp2
        go_loopw [27] (fun iv wx => ∃ i : Nat, i ≤ s ∧ iv = .int .i64 (i : Int) ∧ Hid (Nr bM s1 (wy a i) wx ∧ Cl w.heap.size [.slice none 0 0] 64 wx ∧ Below w.heap.size w wx)) (fun iv _ => s - (intOf iv).toNat)
        case atStart => exact ⟨0, Nat.zero_le _, rfl, HR.out⟩
        case round =>
          clear HR
          obtain ⟨i, his, rfl, HR⟩ := hrel
          by_cases hli : i < s
          · have HLi : Hid (i < s) := hli
            obtain ⟨i1, hi1⟩ : ∃ i1, i1 = i + 1 := ⟨_, rfl⟩
            have hi1i : (i : Int) + 1 = (i1 : Int) := by omega
            obtain ⟨aa, haa⟩ : ∃ aa, aa = a + 1 := ⟨_, rfl⟩
            have haai : (a : Int) + 1 = (aa : Int) := by omega
            have hwi : IntKind.i64.wrap (i1 : Int) = (i1 : Int) := by rw [IntKind.wrap_i64]; omega
            have hwa : IntKind.i64.wrap (aa : Int) = (aa : Int) := by rw [IntKind.wrap_i64]; omega
            have his1 : i < s1 := by have := HS.out.1; omega
            have hi1s1 : i1 < s1 := by have := HS.out.1; omega
            have HI1 : Hid (i1 = i + 1 ∧ aa = a + 1) := ⟨hi1, haa⟩
            obtain ⟨xa, xk, xc, q1, _, lx⟩ := HR.out.1.get hi1s1
            obtain ⟨ya, yk, yc, q2, _, ly⟩ := HR.out.1.get his1
            have hb1 : wy a i i1 < Bs ^ 70 := wy_bs (by have := HS.out; have := HA.out; omega)
            have hb2 : wy a i i < Bs ^ 70 := wy_bs (by have := HS.out; have := HA.out; omega)
            have HTm : Hid (∀ W, Below wr.heap.size wr W → Calls Tryz.prog 97 #[.agg #[.slice ya yk yc], .int .i64 (aa : Int)] W fun e w' => ∃ v, e = .returned (.agg #[v]) ∧ LN w' v (wy a i i * aa) ∧ Below W.heap.size W w') := fun W kk => Times_any (.slice ya yk yc) (wy a i i) aa 70 W (ly.below kk) hb2 (by omega) (by omega)
            have HPl : Hid (∀ W v, Below wr.heap.size wr W → LN W v (wy a i i * aa) → Calls Tryz.prog 96 #[.agg #[.slice xa xk xc], .agg #[v]] W fun e w' => ∃ v, e = .returned (.agg #[v]) ∧ LN w' v (wy a (i + 1) i1) ∧ Below W.heap.size W w') := fun W v kk l => by
              have hb3 : wy a i i * aa < Bs ^ 71 := by
                have h1 : wy a i i * aa ≤ Bs ^ 70 * aa := Nat.mul_le_mul_right _ (Nat.le_of_lt hb2)
                have h2 : Bs ^ 70 * aa ≤ Bs ^ 70 * 201 := Nat.mul_le_mul_left _ (by omega)
                have h3 : Bs ^ 70 * 201 < Bs ^ 71 := by decide +kernel
                omega
              have h := Plus_any (.slice xa xk xc) v (wy a i i1) (wy a i i * aa) 71 W (lx.below kk) l (Nat.lt_of_lt_of_le hb1 (Nat.pow_le_pow_right (by decide) (by decide))) hb3 (by omega)
              have e : wy a i i1 + wy a i i * aa = wy a (i + 1) i1 := by rw [hi1, haa]; exact (wy_at a i).symm
              rw [e] at h
              exact h
            have HK : Hid (∀ W, Below wr.heap.size wr W → W.cell? ⟨bM, i1, none⟩ = some (.slice xa xk xc) ∧ W.cell? ⟨bM, i, none⟩ = some (.slice ya yk yc)) := fun W kk => by
              have hc := HR.out.1.lt
              exact ⟨(kk.cell (p := ⟨bM, i1, none⟩) hc).trans q1, (kk.cell (p := ⟨bM, i, none⟩) hc).trans q2⟩
            clear lx ly q1 q2 hi1 haa hb1 hb2
            go_wp2
            refine wp_region_G (fun W => W.cell? ⟨bM, i1, none⟩ = some (.slice xa xk xc) ∧ W.cell? ⟨bM, i, none⟩ = some (.slice ya yk yc)) 17 (by kernel_rfl) (HK.out _ (Below.refl _ _).drew) (fun hHeld => ?_)
            refine wpAnyG_take (i := 0) (v := ?v0x1) rfl (by kernel_rfl) (fun _ _ _ h => h) (Or.inl ⟨by rfl, ?y0x1⟩) hHeld ?r0x1
            case y0x1 => (intro wS hSw; obtain ⟨s1', s2'⟩ := hSw; go_simp; try with_reducible rfl)
            simp only [Act.put, List.getElem_toArray, List.getElem_cons_zero, List.getElem_cons_succ, List.setIfInBounds_toArray, List.set_cons_zero, List.set_cons_succ]
            refine wpAnyG_take (i := 1) (v := ?v1x2) rfl (by kernel_rfl) (fun _ _ _ h => h) (Or.inl ⟨by rfl, ?y1x2⟩) hHeld ?r1x2
            case y1x2 => (intro wS hSw; obtain ⟨s1', s2'⟩ := hSw; go_simp; try with_reducible rfl)
            simp only [Act.put, List.getElem_toArray, List.getElem_cons_zero, List.getElem_cons_succ, List.setIfInBounds_toArray, List.set_cons_zero, List.set_cons_succ]
            refine wpAnyG_take (i := 2) (v := ?v2x3) rfl (by kernel_rfl) (fun _ _ _ h => h) (Or.inl ⟨by rfl, ?y2x3⟩) hHeld ?r2x3
            case y2x3 => (intro wS hSw; obtain ⟨s1', s2'⟩ := hSw; go_simp; try with_reducible rfl)
            simp only [Act.put, List.getElem_toArray, List.getElem_cons_zero, List.getElem_cons_succ, List.setIfInBounds_toArray, List.set_cons_zero, List.set_cons_succ]
            refine wpAnyG_take (i := 3) (v := ?v3x4) rfl (by kernel_rfl) (fun _ _ _ h => h) (Or.inl ⟨by rfl, ?y3x4⟩) hHeld ?r3x4
            case y3x4 => (intro wS hSw; obtain ⟨s1', s2'⟩ := hSw; go_simp; try with_reducible rfl)
            simp only [Act.put, List.getElem_toArray, List.getElem_cons_zero, List.getElem_cons_succ, List.setIfInBounds_toArray, List.set_cons_zero, List.set_cons_succ]
            refine wpAnyG_take (i := 4) (v := ?v4x5) rfl (by kernel_rfl) (fun _ _ _ h => h) (Or.inl ⟨by rfl, ?y4x5⟩) hHeld ?r4x5
            case y4x5 => (intro wS hSw; obtain ⟨s1', s2'⟩ := hSw; go_simp; try with_reducible rfl)
            simp only [Act.put, List.getElem_toArray, List.getElem_cons_zero, List.getElem_cons_succ, List.setIfInBounds_toArray, List.set_cons_zero, List.set_cons_succ]
            refine wpAnyG_take (i := 5) (v := ?v5x6) rfl (by kernel_rfl) (fun _ _ _ h => h) (Or.inl ⟨by rfl, ?y5x6⟩) hHeld ?r5x6
            case y5x6 => (intro wS hSw; obtain ⟨s1', s2'⟩ := hSw; go_simp; try with_reducible rfl)
            simp only [Act.put, List.getElem_toArray, List.getElem_cons_zero, List.getElem_cons_succ, List.setIfInBounds_toArray, List.set_cons_zero, List.set_cons_succ]
            refine wpAnyG_take (i := 6) (v := ?v6x7) rfl (by kernel_rfl) (fun _ _ _ h => h) (Or.inl ⟨by rfl, ?y6x7⟩) hHeld ?r6x7
            case y6x7 => (intro wS hSw; obtain ⟨s1', s2'⟩ := hSw; go_simp; try with_reducible rfl)
            simp only [Act.put, List.getElem_toArray, List.getElem_cons_zero, List.getElem_cons_succ, List.setIfInBounds_toArray, List.set_cons_zero, List.set_cons_succ]
            refine wpAnyG_take (i := 7) (v := ?v7x8) rfl (by kernel_rfl) (fun _ _ _ h => h) (Or.inl ⟨by rfl, ?y7x8⟩) hHeld ?r7x8
            case y7x8 => (intro wS hSw; obtain ⟨s1', s2'⟩ := hSw; go_simp; try with_reducible rfl)
            simp only [Act.put, List.getElem_toArray, List.getElem_cons_zero, List.getElem_cons_succ, List.setIfInBounds_toArray, List.set_cons_zero, List.set_cons_succ]
            refine wpAnyG_take (i := 8) (v := ?v8x9) rfl (by kernel_rfl) (fun _ _ _ h => h) (Or.inl ⟨by rfl, ?y8x9⟩) hHeld ?r8x9
            case y8x9 => (intro wS hSw; obtain ⟨s1', s2'⟩ := hSw; go_simp; try with_reducible rfl)
            simp only [Act.put, List.getElem_toArray, List.getElem_cons_zero, List.getElem_cons_succ, List.setIfInBounds_toArray, List.set_cons_zero, List.set_cons_succ]
            refine wpAnyG_take (i := 9) (v := ?v9x10) rfl (by kernel_rfl) (fun _ _ _ h => h) (Or.inl ⟨by rfl, ?y9x10⟩) hHeld ?r9x10
            case y9x10 => (intro wS hSw; obtain ⟨s1', s2'⟩ := hSw; go_simp; try with_reducible rfl)
            simp only [Act.put, List.getElem_toArray, List.getElem_cons_zero, List.getElem_cons_succ, List.setIfInBounds_toArray, List.set_cons_zero, List.set_cons_succ]
            refine wpAnyG_take (i := 10) (v := ?v10x11) rfl (by kernel_rfl) (fun _ _ _ h => h) (Or.inl ⟨by rfl, ?y10x11⟩) hHeld ?r10x11
            case y10x11 => (intro wS hSw; obtain ⟨s1', s2'⟩ := hSw; go_simp; try with_reducible rfl)
            simp only [Act.put, List.getElem_toArray, List.getElem_cons_zero, List.getElem_cons_succ, List.setIfInBounds_toArray, List.set_cons_zero, List.set_cons_succ]
            refine wpAnyG_take (i := 11) (v := ?v11x12) rfl (by kernel_rfl) (fun _ _ _ h => h) (Or.inl ⟨by rfl, ?y11x12⟩) hHeld ?r11x12
            case y11x12 => (intro wS hSw; obtain ⟨s1', s2'⟩ := hSw; go_simp; try with_reducible rfl)
            simp only [Act.put, List.getElem_toArray, List.getElem_cons_zero, List.getElem_cons_succ, List.setIfInBounds_toArray, List.set_cons_zero, List.set_cons_succ]
            refine wpAnyG_take (i := 12) (v := ?v12x13) rfl (by kernel_rfl) (fun _ _ _ h => h) (Or.inl ⟨by rfl, ?y12x13⟩) hHeld ?r12x13
            case y12x13 => (intro wS hSw; obtain ⟨s1', s2'⟩ := hSw; go_simp; try with_reducible rfl)
            simp only [Act.put, List.getElem_toArray, List.getElem_cons_zero, List.getElem_cons_succ, List.setIfInBounds_toArray, List.set_cons_zero, List.set_cons_succ]
            refine wpAnyG_take (i := 13) (v := ?v13x14) rfl (by kernel_rfl) (fun _ _ _ h => h) (Or.inl ⟨by rfl, ?y13x14⟩) hHeld ?r13x14
            case y13x14 => (intro wS hSw; obtain ⟨s1', s2'⟩ := hSw; go_simp; try with_reducible rfl)
            simp only [Act.put, List.getElem_toArray, List.getElem_cons_zero, List.getElem_cons_succ, List.setIfInBounds_toArray, List.set_cons_zero, List.set_cons_succ]
            refine wpAnyG_one (i := 14) rfl (by kernel_rfl) (fun K hK => ?_)
            go_simp
            refine (HTm.out _ (Below.refl _ _).drew).mono ?_
            rintro e w5 ⟨v5, rfl, l5, k5⟩
            obtain ⟨a5, m5, c5, rfl⟩ := l5.shape
            have HL5 : Hid (LN w5 (.slice a5 m5 c5) (wy a i i * aa) ∧ Below wr.heap.size wr w5) := ⟨l5, (Below.refl _ _).drew.trans k5⟩
            clear l5 k5
            refine hK.out _ _ (HK.out _ HL5.out.2) ?_
            clear hK K hHeld
            have hHeld := HK.out _ HL5.out.2
            refine wpAnyG_one (i := 15) rfl (by kernel_rfl) (fun K hK => ?_)
            go_simp
            refine (HPl.out w5 _ HL5.out.2 HL5.out.1).mono ?_
            rintro e w6 ⟨v6, rfl, l6, k6⟩
            obtain ⟨a6, m6, c6, rfl⟩ := l6.shape
            have HK6 : Hid (Below wr.heap.size wr w6) := HL5.out.2.trans (k6.mono HL5.out.2.size)
            have HW6 : Hid (Nr bM s1 (wy a i) w6) := HR.out.1.below HK6.out
            obtain ⟨u1, u2, u3, q3, q4, _⟩ := HW6.out.get hi1s1
            have HN : Hid (Nr bM s1 (wy a (i + 1)) (w6.setCell ⟨bM, i1, none⟩ (.slice a6 m6 c6)) ∧ Cl w.heap.size [.slice none 0 0] 64 (w6.setCell ⟨bM, i1, none⟩ (.slice a6 m6 c6)) ∧ Below w.heap.size w (w6.setCell ⟨bM, i1, none⟩ (.slice a6 m6 c6))) := by
              refine ⟨(HW6.out.put hi1s1 a6 m6 c6 _ l6 (wy a (i + 1)) rfl (fun j _ hj => wy_other (by have := HI1.out.1; omega))).1, (HR.out.2.1.below HK6.out).other (by have := HbM.out; simp; omega) _, ((HR.out.2.2.trans (HK6.out.mono HR.out.2.2.size)).setCell (by have := HbM.out; simp; omega) _)⟩
            clear l6 k6
            refine hK.out _ _ (HK.out _ HK6.out) ?_
            clear hK K hHeld
            have hHeld := HK.out _ HK6.out
            refine wpAnyG_take (i := 16) (v := ?v16x15) rfl (by kernel_rfl) (fun _ _ _ h => h) (Or.inl ⟨by rfl, ?y16x15⟩) hHeld ?r16x15
            case y16x15 => (intro wS hSw; obtain ⟨s1', s2'⟩ := hSw; go_simp; try with_reducible rfl)
            simp only [Act.put, List.getElem_toArray, List.getElem_cons_zero, List.getElem_cons_succ, List.setIfInBounds_toArray, List.set_cons_zero, List.set_cons_succ]
            refine wpAnyG_last (i := 17) rfl (by kernel_rfl) (by kernel_rfl) (fun K hK => ?_)
            go_simp
            refine hK.out _ _ ?_
            clear hK K
            refine wpAnyG_done (by kernel_rfl) ?_ _
            clear q3 q4 hHeld
            go_wp2
            go_roundw
            case rel => exact ⟨i + 1, by have := HLi.out; omega, by go_num, HN.out⟩
            case measure => have := HLi.out; simp [intOf]; omega
          · obtain rfl : s = i := by omega
            have HN : Hid (Nr bM s1 (wy (a + 1) 0) wr ∧ Cl w.heap.size [.slice none 0 0] 64 wr ∧ Below w.heap.size w wr) := by
              refine ⟨HR.out.1.congr (fun j hj => ?_), HR.out.2⟩
              rw [wy_start, wy_end (by have := HS.out.1; omega)]
            clear HR
            go_wp2
            go_roundw
            case rel => exact ⟨a + 1, by have := HA.out; omega, by go_num, HN.out⟩
            case measure => have := HA.out; simp [intOf]; omega
      · obtain rfl : kN = a := by omega
        have hss1 : s < s1 := by have := HS.out.1; omega
        obtain ⟨xa, xk, xc, q1, _, lx⟩ := HR.out.1.get hss1
        have e : wy kN 0 s = BN.st nN kN := by rw [wy_start, show kN + s = nN by have := HS.out.2; omega]
        rw [e] at lx
        have C := HR.out.2.1
        have r0 := C.cell 0
        have r1 := C.frozen 0
        simp at r0
        have HF : Hid (Cl w.heap.size [.slice xa xk xc] 64 (wr.setCell ⟨w.heap.size, 0, none⟩ (.slice xa xk xc)) ∧ LN (wr.setCell ⟨w.heap.size, 0, none⟩ (.slice xa xk xc)) (.slice xa xk xc) (BN.st nN kN) ∧ Below w.heap.size w (wr.setCell ⟨w.heap.size, 0, none⟩ (.slice xa xk xc))) :=
          ⟨C.set 0 _, lx.setB C (fun u hu => by simp at hu; subst hu; exact ni_slice _ _ _) _, HR.out.2.2.setCell (Nat.le_refl _) _⟩
        clear lx e C
        go_wp2
        have C3 := HF.out.1
        have e1 := C3.cell 0
        simp at e1
        exact bodyPost_ret (v := .agg #[.slice xa xk xc]) (by simp [results, Tryz.results67, go_sem, e1]) rfl ⟨_, rfl, HF.out.2.1, HF.out.2.2⟩
end Go.Proofs.YtnkjadpmigpneaaGreatDoor
