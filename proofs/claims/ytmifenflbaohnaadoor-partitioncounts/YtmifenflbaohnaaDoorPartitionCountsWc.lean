/- The law PartitionCounts: numbers up to 25; out of what is asked of the code. -/
import Derived.Test.YtmifenflbaohnaaDoorJnS
import Derived.Test.YtmifenflbaohnaaDoorJnP
import Derived.BigQuiet
import Derived.Test.YtmifenflbaohnaaDoorJnR
import Derived.Test.YtmifenflbaohnaaDoorPtF
import Derived.Test.YtmifenflbaohnaaDoorJnB
import Derived.Test.YtmifenflbaohnaaDoorJnD
set_option linter.unusedSimpArgs false
set_option linter.unusedVariables false
set_option maxRecDepth 100000
namespace Go.Proofs.YtmifenflbaohnaaDoor
open Go.RowKit LgM

/-- A row of rows. -/
structure Rows2 (w : World) (v : Value) (LL : List (List Int)) : Prop where
  shape : ∃ (aa : Option Addr) (g o cap : Nat), v = .slice aa LL.length cap ∧ (0 < LL.length → aa = some ⟨g, o, none⟩ ∧ g < w.heap.size) ∧ ∀ i (hi : i < LL.length), ∃ r, w.cell? ⟨g, o + i, none⟩ = some r ∧ IS w r LL[i]
theorem Rows2.below {w w' : World} {v : Value} {LL : List (List Int)} (h : Rows2 w v LL) (k : Below w.heap.size w w') : Rows2 w' v LL := by
  obtain ⟨aa, g, o, cap, h1, h2, h3⟩ := h.shape
  refine ⟨aa, g, o, cap, h1, fun h => ⟨(h2 h).1, Nat.lt_of_lt_of_le (h2 h).2 k.size⟩, fun i hi => ?_⟩
  obtain ⟨r, a, b⟩ := h3 i hi
  exact ⟨r, (k.cell (p := ⟨g, o + i, none⟩) (h2 (by omega)).2).trans a, b.belowP k⟩
/-- What is asked of the rows. -/
structure Prw (n : Nat) (LL : List (List Int)) : Prop where
  len : LL.length = PT.pt n n
  rng : ∀ r ∈ LL, ∀ j, j < r.length → 1 ≤ r.getD j 0 ∧ r.getD j 0 ≤ n
  dn : ∀ r ∈ LL, ∀ j, j + 1 < r.length → r.getD (j + 1) 0 ≤ r.getD j 0
  sum : ∀ r ∈ LL, r.sum = n
  ord : ∀ i (h : i + 1 < LL.length), PT.gtr LL[i] LL[i + 1] = true
theorem row_len {n : Nat} {r : List Int} (h : ∀ j, j < r.length → 1 ≤ r.getD j 0) (hs : r.sum = n) : r.length ≤ n := by
  have key : ∀ r : List Int, (∀ j, j < r.length → 1 ≤ r.getD j 0) → (r.length : Int) ≤ r.sum := by
    intro r
    induction r with
    | nil => intro _; simp
    | cons x r ih =>
      intro h
      have a := h 0 (by simp)
      have b := ih (fun j hj => by have := h (j + 1) (by simp; omega); simpa using this)
      simp at a
      simp only [List.length_cons, List.sum_cons]
      omega
  have := key r h
  omega
set_option maxRecDepth 100000 in
set_option maxHeartbeats 8000000 in
theorem counts_small (nM : Nat) (st : ByteArray) (w : World) (hn : nM ≤ 2000) (hn25 : nM ≤ 25) (hst : st = ⟨(Lib.decDigits (PT.pt nM nM)).toArray⟩) (hCt : Calls Tryd.prog 6 #[.int .i64 (nM : Int)] w fun e w' => e = .returned (.tuple #[.string st, .agg #[.int .i64 0, .int .i64 0]]) ∧ Below w.heap.size w w') (hLs : ∀ W, Below w.heap.size w W → Calls Tryd.prog 7 #[.int .i64 (nM : Int)] W fun e w' => ∃ v LL, e = .returned (.tuple #[v, .agg #[.int .i64 0, .int .i64 0]]) ∧ Rows2 w' v LL ∧ Prw nM LL ∧ Below W.heap.size W w') (hBg : ∀ W, Below w.heap.size w W → Calls Tryd.prog 8 #[] W fun e w' => e = .returned (.bool true) ∧ Below W.heap.size W w') :
    Calls Tryd.prog 3 #[.int .i64 (nM : Int)] w fun e w' => e = .returned (.bool true) ∧ Below w.heap.size w w' := by
  have HLs : Hid (∀ W, Below w.heap.size w W → Calls Tryd.prog 7 #[.int .i64 (nM : Int)] W fun e w' => ∃ v LL, e = .returned (.tuple #[v, .agg #[.int .i64 0, .int .i64 0]]) ∧ Rows2 w' v LL ∧ Prw nM LL ∧ Below W.heap.size W w') := hLs
  have t25 : decide (25 < (nM : Int)) = false := decide_eq_false (by omega)
  clear hLs
  have HCt : Hid (Calls Tryd.prog 6 #[.int .i64 (nM : Int)] w fun e w' => e = .returned (.tuple #[.string st, .agg #[.int .i64 0, .int .i64 0]]) ∧ Below w.heap.size w w') := hCt
  have HBg : Hid (∀ W, Below w.heap.size w W → Calls Tryd.prog 8 #[] W fun e w' => e = .returned (.bool true) ∧ Below W.heap.size W w') := hBg
  have HTx : Hid (∀ b w, BigAt w b ((PT.pt nM nM : Nat) : Int) → Calls Tryd.prog 11 #[.pointer (some ⟨b, 0, none⟩)] w fun e w' => e = .returned (.string st) ∧ Below w.heap.size w w') := fun b w h => by rw [hst]; exact pt_text nM hn b w h
  have HPm : Hid (∀ w, Calls Tryd.prog 10 #[.int .i64 (nM : Int)] w fun e w' => ∃ b g : Nat, e = .returned (.slice (some ⟨g, 0, none⟩) (nM + 1) (nM + 1)) ∧ w'.cell? ⟨g, nM, none⟩ = some (.pointer (some ⟨b, 0, none⟩)) ∧ BigAt w' b ((PT.pt nM nM : Nat) : Int) ∧ Below w.heap.size w w') := fun w => by
    refine (refPartitionsMany_any nM w hn).mono ?_
    rintro e w' ⟨g, c, rfl, h⟩
    obtain ⟨b, h1, h2⟩ := h.num nM (by omega)
    exact ⟨b, g, rfl, by rw [h.row.cell, vcells_at _ (by omega), h1], h2, h.k⟩
  have t0 : decide ((nM : Int) < 0) = false := decide_eq_false (by omega)
  have t1 : decide (2000 < (nM : Int)) = false := decide_eq_false (by omega)
  have hb1 : (nM : Int) < (nM : Int) + 1 := by omega
  clear hCt hBg hst
  go_enter Tryd.func3, Tryd.ntmps3
  go_wp2_with fail
  refine HCt.out.mono ?_
  rintro e w1 ⟨rfl, k1⟩
  go_wp2_with fail
  obtain ⟨b4, hb4⟩ : ∃ b, w1.heap.size = b := ⟨_, rfl⟩
  obtain ⟨W2, hW2⟩ : ∃ W, w1.alloc (.cells #[.int .i64 0, .int .i64 0] 23) = W := ⟨_, rfl⟩
  have K2 : Hid (Sv b4 0 0 W2 ∧ Below w.heap.size w W2) := by
    show _ ∧ _
    rw [← hW2]
    exact ⟨Sv.fresh 0 0 hb4, k1.trans ((below_one w1 _).mono k1.size)⟩
  rw [hW2, hb4]
  clear hW2 hb4 k1 HCt
  refine (HLs.out _ K2.out.2).mono ?_
  rintro e w3 ⟨vl, LL, rfl, hrw, hpr, k3⟩
  have HPr : Hid (Prw nM LL) := hpr
  have K3 : Hid (Sv b4 0 0 w3 ∧ Below w.heap.size w w3 ∧ Rows2 w3 vl LL) := ⟨K2.out.1.below k3, K2.out.2.trans (k3.mono K2.out.2.size), hrw⟩
  clear k3 K2 HLs hrw hpr
  go_wp2_with fail
  obtain ⟨b6, hb6⟩ : ∃ b, w3.heap.size = b := ⟨_, rfl⟩
  obtain ⟨W4, hW4⟩ : ∃ W, w3.alloc (.cells #[.int .i64 0, .int .i64 0] 23) = W := ⟨_, rfl⟩
  have K4 : Hid (Sv b4 0 0 W4 ∧ Sv b6 0 0 W4 ∧ Below w.heap.size w W4 ∧ Rows2 W4 vl LL) := by
    show _ ∧ _
    rw [← hW4]
    have kb := below_one w3 (.cells #[.int .i64 0, .int .i64 0] 23)
    exact ⟨K3.out.1.below kb, Sv.fresh 0 0 hb6, K3.out.2.1.trans (kb.mono K3.out.2.1.size), K3.out.2.2.below kb⟩
  rw [hW4, hb6]
  clear hW4 hb6 K3
  refine (HBg.out _ K4.out.2.2.1).mono ?_
  rintro e w5 ⟨rfl, k5⟩
  have K5 : Hid (Sv b4 0 0 w5 ∧ Sv b6 0 0 w5 ∧ Below w.heap.size w w5 ∧ Rows2 w5 vl LL) := ⟨K4.out.1.below k5, K4.out.2.1.below k5, K4.out.2.2.1.trans (k5.mono K4.out.2.2.1.size), K4.out.2.2.2.below k5⟩
  clear k5 K4 HBg
  obtain ⟨u0, u1, u2, u3, u4⟩ := K5.out.1
  go_wp2_with fail
  refine (HPm.out w5).mono ?_
  rintro e w6 ⟨bn, gn, rfl, cn, hbn, k6⟩
  have K6 : Hid (Sv b6 0 0 w6 ∧ Below w.heap.size w w6 ∧ Rows2 w6 vl LL) := ⟨K5.out.2.1.below k6, K5.out.2.2.1.trans (k6.mono K5.out.2.2.1.size), K5.out.2.2.2.below k6⟩
  have HBn : Hid (BigAt w6 bn ((PT.pt nM nM : Nat) : Int)) := hbn
  clear k6 hbn u0 u1 u2 u3 u4 HPm
  go_wp2_with fail
  refine (HTx.out bn w6 HBn.out).mono ?_
  rintro e w7 ⟨rfl, k7⟩
  have K7 : Hid (Sv b6 0 0 w7 ∧ Below w.heap.size w w7 ∧ Rows2 w7 vl LL) := ⟨K6.out.1.below k7, K6.out.2.1.trans (k7.mono K6.out.2.1.size), K6.out.2.2.below k7⟩
  clear k7 cn HBn
  obtain ⟨y0, y1, y2, y3, y4⟩ := K7.out.1
  obtain ⟨aL, gL, oL, cL, rfl, hL2, hL3⟩ := K7.out.2.2.shape
  obtain ⟨N, hN⟩ : ∃ N, N = LL.length := ⟨_, rfl⟩
  have HN : Hid (N = LL.length) := hN
  have hNb : N ≤ 33554432 := by
    rw [hN, HPr.out.len]
    exact Nat.le_trans (PT.pt_le nM nM) (Nat.le_trans (Nat.pow_le_pow_right (by decide) hn25) (by decide))
  have HL : Hid ((0 < N → aL = some ⟨gL, oL, none⟩) ∧ ∀ i (hi : i < LL.length), ∃ (ra : Option Addr) (rg ro rc : Nat), (0 < LL[i].length → ra = some ⟨rg, ro, none⟩) ∧ ∀ W, Below w7.heap.size w7 W → W.cell? ⟨gL, oL + i, none⟩ = some (.slice ra LL[i].length rc) ∧ IS W (.slice ra LL[i].length rc) LL[i] ∧ ∀ k, k < LL[i].length → W.cell? ⟨rg, ro + k, none⟩ = some (.int .i64 (LL[i].getD k 0))) := by
    refine ⟨fun h => (hL2 (by omega)).1, fun i hi => ?_⟩
    obtain ⟨r, a, b⟩ := hL3 i hi
    obtain ⟨ra, rg, ro, rc, rfl, q2, q3⟩ := b.open'
    exact ⟨ra, rg, ro, rc, q2, fun W k => ⟨(k.cell (p := ⟨gL, oL + i, none⟩) (hL2 (by omega)).2).trans a, b.belowP k, q3 W k⟩⟩
  rw [← hN]
  clear hL2 hL3 hN
  go_wp2_with fail
  refine (B_any (N : Int) w7 (by omega) (by omega)).mono ?_
  rintro e w8 ⟨bm, rfl, m8⟩
  have K8 : Hid (Below w7.heap.size w7 w8 ∧ BigAt w8 bm ((PT.pt nM nM : Nat) : Int)) := ⟨m8.2.2, by rw [← HPr.out.len, ← HN.out]; exact m8.2.1⟩
  clear m8 y0 y1 y2 y3 y4
  go_wp2_with fail
  refine (HTx.out bm w8 K8.out.2).mono ?_
  rintro e w9 ⟨rfl, k9⟩
  have K9 : Hid (Below w7.heap.size w7 w9) := K8.out.1.trans (k9.mono K8.out.1.size)
  clear k9 K8 HTx
  go_wp2
  go_loopg [8] N (fun gk iv wx => ∃ i : Nat, iv = .int .i64 (i : Int) ∧ Hid (gk = N - i ∧ i ≤ N ∧ Below w7.heap.size w7 wx))
  case atStart => exact ⟨0, rfl, rfl, by omega, K9.out⟩
  case round =>
    clear K9
    obtain ⟨i, rfl, HR⟩ := hrel
    obtain ⟨h1, h2, h3⟩ := HR.out
    have HKi : Hid (gk = N - i) := h1
    have HW : Hid (Below w7.heap.size w7 wr) := h3
    clear HR h1 h3
    by_cases hi : i < N
    · have ti : decide ((i : Int) < (N : Int)) = true := decide_eq_true (by omega)
      have hil : i < LL.length := by have := HN.out; omega
      obtain rfl := HL.out.1 (by omega)
      obtain ⟨ra, rg, ro, rc, hra, hrw⟩ := HL.out.2 i hil
      have hmem : LL[i] ∈ LL := List.getElem_mem hil
      obtain ⟨row, hrow⟩ : ∃ row, LL[i] = row := ⟨_, rfl⟩
      have HRow : Hid (LL[i]'hil = row) := hrow
      rw [hrow] at hra hrw hmem
      obtain ⟨M, hM⟩ : ∃ M, M = row.length := ⟨_, rfl⟩
      have HM : Hid (M = row.length) := hM
      have HRg : Hid ((∀ j, j < row.length → 1 ≤ row.getD j 0 ∧ row.getD j 0 ≤ nM) ∧ (∀ j, j + 1 < row.length → row.getD (j + 1) 0 ≤ row.getD j 0) ∧ row.sum = nM) := ⟨HPr.out.rng row hmem, HPr.out.dn row hmem, HPr.out.sum row hmem⟩
      have hMb : M ≤ 25 := by
        have := row_len (fun j hj => (HRg.out.1 j hj).1) HRg.out.2.2
        omega
      rw [← hM] at hra hrw
      have HRw : Hid ((0 < M → ra = some ⟨rg, ro, none⟩) ∧ ∀ W, Below w7.heap.size w7 W → W.cell? ⟨gL, oL + i, none⟩ = some (.slice ra M rc) ∧ IS W (.slice ra M rc) row ∧ ∀ k, k < M → W.cell? ⟨rg, ro + k, none⟩ = some (.int .i64 (row.getD k 0))) := ⟨hra, hrw⟩
      have x0 : (i : Int) < (N : Int) := by omega
      clear hra hrw hmem hrow hM
      go_wp2
      go_loopg [9, 10] M (fun gk sv kv wx => ∃ (k : Nat) (s : Int), sv = .int .i64 s ∧ kv = .int .i64 (k : Int) ∧ Hid (gk = M - k ∧ k ≤ M ∧ s = (row.take k).sum ∧ Below w7.heap.size w7 wx))
      case atStart => exact ⟨0, 0, rfl, rfl, rfl, by omega, by simp, HW.out⟩
      case round =>
        clear HW
        obtain ⟨k, s, rfl, rfl, HR⟩ := hrel
        obtain ⟨h1, h2', h3, h4⟩ := HR.out
        have HKk : Hid (gk = M - k) := h1
        have HSs : Hid (s = (row.take k).sum) := h3
        have HW : Hid (Below w7.heap.size w7 wr) := h4
        have hs1 : 0 ≤ s ∧ s ≤ nM := by
          rw [h3]
          refine ⟨?_, ?_⟩
          · exact PT.sum_nn (fun j hj => by
              have := HRg.out.1 j (by simp at hj; omega)
              rw [List.getD_eq_getElem?_getD] at this ⊢
              rw [List.getElem?_take_of_lt (by simp at hj; omega)]
              exact this.1)
          · have := PT.take_sum_le (l := row) (fun j hj => (HRg.out.1 j hj).1) k
            rw [HRg.out.2.2] at this
            exact this
        obtain ⟨cI, _, hcell⟩ := HRw.out.2 _ h4
        clear HR h1 h3 h4
        by_cases hk : k < M
        · have tk : decide ((k : Int) < (M : Int)) = true := decide_eq_true (by omega)
          have hkl : k < row.length := by have := HM.out; omega
          obtain rfl := HRw.out.1 (by omega)
          have c0 := hcell k hk
          obtain ⟨b1, b2⟩ := HRg.out.1 k hkl
          have HSt : Hid ((row.take (k + 1)).sum = (row.take k).sum + row.getD k 0) := PT.sum_s hkl
          obtain ⟨x, hx⟩ : ∃ x, row.getD k 0 = x := ⟨_, rfl⟩
          have HX : Hid (row.getD k 0 = x) := hx
          rw [hx] at c0 b1 b2
          have x1 : (k : Int) < (M : Int) := by omega
          have t1' : decide (x < 1) = false := decide_eq_false (by omega)
          have t2' : decide ((nM : Int) < x) = false := decide_eq_false (by omega)
          clear hx
          by_cases h0 : k = 0
          · have t0' : decide (0 < (k : Int)) = false := decide_eq_false (by omega)
            have t0n : decide (0 < k) = false := decide_eq_false (by omega)
            clear h0 hcell
            go_wp2_with fail
            go_quiet (fail)
            go_wp2
            go_roundg (M - (k + 1))
            case rel => exact ⟨k + 1, s + x, by go_num, by go_num, rfl, by omega, by rw [HSt.out, HX.out, HSs.out], below_drewN' HW.out⟩
            case measure => have := HKk.out; omega
          · obtain ⟨r, hr⟩ : ∃ r, k = r + 1 := ⟨k - 1, by omega⟩
            have t0' : decide (0 < (k : Int)) = true := decide_eq_true (by omega)
            have t0n : decide (0 < k) = true := decide_eq_true (by omega)
            have c1 := hcell r (by omega)
            have hip : (k : Int) - 1 = (r : Int) := by omega
            obtain ⟨y, hy⟩ : ∃ y, row.getD r 0 = y := ⟨_, rfl⟩
            have hxy : x ≤ y := by
              have := HRg.out.2.1 r (by omega)
              rw [← hr, HX.out, hy] at this
              exact this
            rw [hy] at c1
            have t4 : decide (y < x) = false := decide_eq_false (by omega)
            have x2 : (r : Int) < (M : Int) := by omega
            have hwp : IntKind.i64.wrap (r : Int) = (r : Int) := by rw [IntKind.wrap_i64]; omega
            have hp0 : (0 : Int) ≤ (r : Int) := by omega
            clear hy hr h0 hxy hcell
            go_wp2_with fail
            go_quiet (fail)
            go_wp2
            go_roundg (M - (k + 1))
            case rel => exact ⟨k + 1, s + x, by go_num, by go_num, rfl, by omega, by rw [HSt.out, HX.out, HSs.out], below_drewN' HW.out⟩
            case measure => have := HKk.out; omega
        · have tk : decide ((k : Int) < (M : Int)) = false := decide_eq_false (by omega)
          have hsn : s = (nM : Int) := by
            rw [HSs.out, List.take_of_length_le (by have := HM.out; omega)]
            exact HRg.out.2.2
          subst hsn
          clear hcell hs1
          go_wp2_with fail
          have hneq : ((nM : Int) != (nM : Int)) = false := bne_self_eq_false _
          by_cases h0 : i = 0
          · have t0' : decide (0 < (i : Int)) = false := decide_eq_false (by omega)
            have t0n : decide (0 < i) = false := decide_eq_false (by omega)
            clear h0
            refine wp_region_G (fun _ => True) 19 (by kernel_rfl) trivial (fun hHeld => ?_)
            refine wpAnyG_take (i := 0) (v := ?v0x1) rfl (by kernel_rfl) (fun _ _ _ h => h) (Or.inl ⟨by rfl, ?y0x1⟩) hHeld ?r0x1
            case y0x1 => (intro wS hSw; obtain _ := hSw; go_simp; try with_reducible rfl)
            simp only [Act.put, List.getElem_toArray, List.getElem_cons_zero, List.getElem_cons_succ, List.setIfInBounds_toArray, List.set_cons_zero, List.set_cons_succ]
            refine wpAnyG_take (i := 1) (v := ?v1x2) rfl (by kernel_rfl) (fun _ _ _ h => h) (Or.inl ⟨by rfl, ?y1x2⟩) hHeld ?r1x2
            case y1x2 => (intro wS hSw; obtain _ := hSw; go_simp; try with_reducible rfl)
            simp only [Act.put, List.getElem_toArray, List.getElem_cons_zero, List.getElem_cons_succ, List.setIfInBounds_toArray, List.set_cons_zero, List.set_cons_succ]
            refine wpAnyG_take (i := 2) (v := .bool false) rfl (by kernel_rfl) (fun _ _ _ h => h) (Or.inl ⟨by kernel_rfl, ?y2x3⟩) hHeld ?r2x3
            case y2x3 => (intro wS hSw; (go_simp; try simp only [hneq]))
            simp only [Act.put, List.getElem_toArray, List.getElem_cons_zero, List.getElem_cons_succ, List.setIfInBounds_toArray, List.set_cons_zero, List.set_cons_succ]
            refine wpAnyG_take (i := 3) (v := .bool false) rfl (by kernel_rfl) (fun _ _ _ h => h) (Or.inl ⟨by kernel_rfl, ?y3x4⟩) hHeld ?r3x4
            case y3x4 => (intro wS hSw; (go_simp))
            simp only [Act.put, List.getElem_toArray, List.getElem_cons_zero, List.getElem_cons_succ, List.setIfInBounds_toArray, List.set_cons_zero, List.set_cons_succ]
            refine wpAnyG_take (i := 4) (v := .int .i64 (i : Int)) rfl (by kernel_rfl) (fun _ _ _ h => h) (Or.inl ⟨by kernel_rfl, ?y4x5⟩) hHeld ?r4x5
            case y4x5 => (intro wS hSw; (go_simp))
            simp only [Act.put, List.getElem_toArray, List.getElem_cons_zero, List.getElem_cons_succ, List.setIfInBounds_toArray, List.set_cons_zero, List.set_cons_succ]
            refine wpAnyG_take (i := 5) (v := .bool false) rfl (by kernel_rfl) (fun _ _ _ h => h) (Or.inl ⟨by kernel_rfl, ?y5x6⟩) hHeld ?r5x6
            case y5x6 => (intro wS hSw; (go_simp; try simp only [t0', t0n]))
            simp only [Act.put, List.getElem_toArray, List.getElem_cons_zero, List.getElem_cons_succ, List.setIfInBounds_toArray, List.set_cons_zero, List.set_cons_succ]
            refine wpAnyG_take (i := 6) (v := .bool false) rfl (by kernel_rfl) (fun _ _ _ h => h) (Or.inl ⟨by kernel_rfl, ?y6x7⟩) hHeld ?r6x7
            case y6x7 => (intro wS hSw; (go_simp))
            simp only [Act.put, List.getElem_toArray, List.getElem_cons_zero, List.getElem_cons_succ, List.setIfInBounds_toArray, List.set_cons_zero, List.set_cons_succ]
            refine wpAnyG_take (i := 7) (v := undef) rfl (by kernel_rfl) (fun _ _ _ h => h) (Or.inr ⟨by kernel_rfl, rfl⟩) hHeld ?_
            simp only [Act.put, List.getElem_toArray, List.getElem_cons_zero, List.getElem_cons_succ, List.setIfInBounds_toArray, List.set_cons_zero, List.set_cons_succ]
            refine wpAnyG_take (i := 8) (v := undef) rfl (by kernel_rfl) (fun _ _ _ h => h) (Or.inr ⟨by kernel_rfl, rfl⟩) hHeld ?_
            simp only [Act.put, List.getElem_toArray, List.getElem_cons_zero, List.getElem_cons_succ, List.setIfInBounds_toArray, List.set_cons_zero, List.set_cons_succ]
            refine wpAnyG_take (i := 9) (v := undef) rfl (by kernel_rfl) (fun _ _ _ h => h) (Or.inr ⟨by kernel_rfl, rfl⟩) hHeld ?_
            simp only [Act.put, List.getElem_toArray, List.getElem_cons_zero, List.getElem_cons_succ, List.setIfInBounds_toArray, List.set_cons_zero, List.set_cons_succ]
            refine wpAnyG_take (i := 10) (v := undef) rfl (by kernel_rfl) (fun _ _ _ h => h) (Or.inr ⟨by kernel_rfl, rfl⟩) hHeld ?_
            simp only [Act.put, List.getElem_toArray, List.getElem_cons_zero, List.getElem_cons_succ, List.setIfInBounds_toArray, List.set_cons_zero, List.set_cons_succ]
            refine wpAnyG_take (i := 11) (v := undef) rfl (by kernel_rfl) (fun _ _ _ h => h) (Or.inr ⟨by kernel_rfl, rfl⟩) hHeld ?_
            simp only [Act.put, List.getElem_toArray, List.getElem_cons_zero, List.getElem_cons_succ, List.setIfInBounds_toArray, List.set_cons_zero, List.set_cons_succ]
            refine wpAnyG_take (i := 12) (v := undef) rfl (by kernel_rfl) (fun _ _ _ h => h) (Or.inr ⟨by kernel_rfl, rfl⟩) hHeld ?_
            simp only [Act.put, List.getElem_toArray, List.getElem_cons_zero, List.getElem_cons_succ, List.setIfInBounds_toArray, List.set_cons_zero, List.set_cons_succ]
            refine wpAnyG_take (i := 13) (v := undef) rfl (by kernel_rfl) (fun _ _ _ h => h) (Or.inr ⟨by kernel_rfl, rfl⟩) hHeld ?_
            simp only [Act.put, List.getElem_toArray, List.getElem_cons_zero, List.getElem_cons_succ, List.setIfInBounds_toArray, List.set_cons_zero, List.set_cons_succ]
            refine wpAnyG_take (i := 14) (v := undef) rfl (by kernel_rfl) (fun _ _ _ h => h) (Or.inr ⟨by kernel_rfl, rfl⟩) hHeld ?_
            simp only [Act.put, List.getElem_toArray, List.getElem_cons_zero, List.getElem_cons_succ, List.setIfInBounds_toArray, List.set_cons_zero, List.set_cons_succ]
            refine wpAnyG_take (i := 15) (v := undef) rfl (by kernel_rfl) (fun _ _ _ h => h) (Or.inr ⟨by kernel_rfl, rfl⟩) hHeld ?_
            simp only [Act.put, List.getElem_toArray, List.getElem_cons_zero, List.getElem_cons_succ, List.setIfInBounds_toArray, List.set_cons_zero, List.set_cons_succ]
            refine wpAnyG_take (i := 16) (v := undef) rfl (by kernel_rfl) (fun _ _ _ h => h) (Or.inr ⟨by kernel_rfl, rfl⟩) hHeld ?_
            simp only [Act.put, List.getElem_toArray, List.getElem_cons_zero, List.getElem_cons_succ, List.setIfInBounds_toArray, List.set_cons_zero, List.set_cons_succ]
            refine wpAnyG_take (i := 17) (v := undef) rfl (by kernel_rfl) (fun _ _ _ h => h) (Or.inr ⟨by kernel_rfl, rfl⟩) hHeld ?_
            simp only [Act.put, List.getElem_toArray, List.getElem_cons_zero, List.getElem_cons_succ, List.setIfInBounds_toArray, List.set_cons_zero, List.set_cons_succ]
            refine wpAnyG_take (i := 18) (v := .bool false) rfl (by kernel_rfl) (fun _ _ _ h => h) (Or.inl ⟨by kernel_rfl, ?y18x8⟩) hHeld ?r18x8
            case y18x8 => (intro wS hSw; (go_simp))
            simp only [Act.put, List.getElem_toArray, List.getElem_cons_zero, List.getElem_cons_succ, List.setIfInBounds_toArray, List.set_cons_zero, List.set_cons_succ]
            refine wpAnyG_last (i := 19) rfl (by kernel_rfl) (by kernel_rfl) (fun K hK => ?_)
            go_simp
            refine hK.out _ _ ?_
            clear hK K
            refine wpAnyG_done (by kernel_rfl) ?_ _
            have HWd : Hid (Below w7.heap.size w7 wr.drew) := HW.out.drew
            go_wp2
            go_roundg (N - (i + 1))
            case rel => exact ⟨i + 1, by go_num, rfl, by omega, HWd.out⟩
            case measure => have := HKi.out; omega
          · obtain ⟨p, hp⟩ : ∃ p, i = p + 1 := ⟨i - 1, by omega⟩
            have t0' : decide (0 < (i : Int)) = true := decide_eq_true (by omega)
            have t0n : decide (0 < i) = true := decide_eq_true (by omega)
            have hpl : p < LL.length := by omega
            obtain ⟨qa, qg, qo, qc, hq0, hqw⟩ := HL.out.2 p hpl
            obtain ⟨rowp, hrowp⟩ : ∃ r, LL[p] = r := ⟨_, rfl⟩
            have hgt : PT.gtr rowp row = true := by
              have := HPr.out.ord p (by omega)
              rw [← hrowp, ← HRow.out]
              subst hp
              exact this
            have hpr : rowp ∈ LL := by rw [← hrowp]; exact List.getElem_mem hpl
            rw [hrowp] at hqw
            obtain ⟨MP, hMP⟩ : ∃ M, M = rowp.length := ⟨_, rfl⟩
            have hMPb : MP ≤ 25 := by
              have := row_len (fun j hj => (HPr.out.rng rowp hpr j hj).1) (HPr.out.sum rowp hpr)
              omega
            rw [← hMP] at hqw
            have HGr : Hid (∀ W, Below w7.heap.size w7 W → Calls Tryd.prog 13 #[.slice qa MP qc, .slice ra M rc] W fun e w' => e = .returned (.bool true) ∧ Below W.heap.size W w') := fun W k => by
              have := refGreater_any (.slice qa MP qc) (.slice ra M rc) rowp row W (hqw W k).2.1 (HRw.out.2 W k).2.1 (by omega) (by have := HM.out; omega)
              rw [hgt] at this
              exact this
            have HS : Hid (∀ W, Below wr.heap.size wr W → W.cell? ⟨gL, oL + p, none⟩ = some (.slice qa MP qc) ∧ W.cell? ⟨gL, oL + i, none⟩ = some (.slice ra M rc)) := fun W k => ⟨(hqw W (HW.out.trans (k.mono HW.out.size))).1, (HRw.out.2 W (HW.out.trans (k.mono HW.out.size))).1⟩
            have hip : (i : Int) - 1 = (p : Int) := by omega
            have hwp : IntKind.i64.wrap (p : Int) = (p : Int) := by rw [IntKind.wrap_i64]; omega
            have hpN : (p : Int) < (N : Int) := by omega
            have hp0 : (0 : Int) ≤ (p : Int) := by omega
            clear hp hrowp hgt hpr hqw hMP hq0
            refine wp_region_G (fun W => W.cell? ⟨gL, oL + p, none⟩ = some (.slice qa MP qc) ∧ W.cell? ⟨gL, oL + i, none⟩ = some (.slice ra M rc)) 19 (by kernel_rfl) (HS.out _ (Below.refl _ _).drew) (fun hHeld => ?_)
            refine wpAnyG_take (i := 0) (v := ?v0x9) rfl (by kernel_rfl) (fun _ _ _ h => h) (Or.inl ⟨by rfl, ?y0x9⟩) hHeld ?r0x9
            case y0x9 => (intro wS hSw; obtain ⟨s1, s2⟩ := hSw; go_simp; try with_reducible rfl)
            simp only [Act.put, List.getElem_toArray, List.getElem_cons_zero, List.getElem_cons_succ, List.setIfInBounds_toArray, List.set_cons_zero, List.set_cons_succ]
            refine wpAnyG_take (i := 1) (v := ?v1x10) rfl (by kernel_rfl) (fun _ _ _ h => h) (Or.inl ⟨by rfl, ?y1x10⟩) hHeld ?r1x10
            case y1x10 => (intro wS hSw; obtain ⟨s1, s2⟩ := hSw; go_simp; try with_reducible rfl)
            simp only [Act.put, List.getElem_toArray, List.getElem_cons_zero, List.getElem_cons_succ, List.setIfInBounds_toArray, List.set_cons_zero, List.set_cons_succ]
            refine wpAnyG_take (i := 2) (v := .bool false) rfl (by kernel_rfl) (fun _ _ _ h => h) (Or.inl ⟨by kernel_rfl, ?y2x11⟩) hHeld ?r2x11
            case y2x11 => (intro wS hSw; (go_simp; try simp only [hneq]))
            simp only [Act.put, List.getElem_toArray, List.getElem_cons_zero, List.getElem_cons_succ, List.setIfInBounds_toArray, List.set_cons_zero, List.set_cons_succ]
            refine wpAnyG_take (i := 3) (v := .bool false) rfl (by kernel_rfl) (fun _ _ _ h => h) (Or.inl ⟨by kernel_rfl, ?y3x12⟩) hHeld ?r3x12
            case y3x12 => (intro wS hSw; (go_simp))
            simp only [Act.put, List.getElem_toArray, List.getElem_cons_zero, List.getElem_cons_succ, List.setIfInBounds_toArray, List.set_cons_zero, List.set_cons_succ]
            refine wpAnyG_take (i := 4) (v := .int .i64 (i : Int)) rfl (by kernel_rfl) (fun _ _ _ h => h) (Or.inl ⟨by kernel_rfl, ?y4x13⟩) hHeld ?r4x13
            case y4x13 => (intro wS hSw; (go_simp))
            simp only [Act.put, List.getElem_toArray, List.getElem_cons_zero, List.getElem_cons_succ, List.setIfInBounds_toArray, List.set_cons_zero, List.set_cons_succ]
            refine wpAnyG_take (i := 5) (v := .bool true) rfl (by kernel_rfl) (fun _ _ _ h => h) (Or.inl ⟨by kernel_rfl, ?y5x14⟩) hHeld ?r5x14
            case y5x14 => (intro wS hSw; (go_simp; first | done | simp only [t0', t0n] | omega))
            simp only [Act.put, List.getElem_toArray, List.getElem_cons_zero, List.getElem_cons_succ, List.setIfInBounds_toArray, List.set_cons_zero, List.set_cons_succ]
            refine wpAnyG_take (i := 6) (v := .bool true) rfl (by kernel_rfl) (fun _ _ _ h => h) (Or.inl ⟨by kernel_rfl, ?y6x15⟩) hHeld ?r6x15
            case y6x15 => (intro wS hSw; (go_simp))
            simp only [Act.put, List.getElem_toArray, List.getElem_cons_zero, List.getElem_cons_succ, List.setIfInBounds_toArray, List.set_cons_zero, List.set_cons_succ]
            refine wpAnyG_take (i := 7) (v := .slice (some ⟨gL, oL, none⟩) N cL) rfl (by kernel_rfl) (fun _ _ _ h => h) (Or.inl ⟨by kernel_rfl, ?y7x16⟩) hHeld ?r7x16
            case y7x16 => (intro wS hSw; (go_simp))
            simp only [Act.put, List.getElem_toArray, List.getElem_cons_zero, List.getElem_cons_succ, List.setIfInBounds_toArray, List.set_cons_zero, List.set_cons_succ]
            refine wpAnyG_take (i := 8) (v := .int .i64 (i : Int)) rfl (by kernel_rfl) (fun _ _ _ h => h) (Or.inl ⟨by kernel_rfl, ?y8x17⟩) hHeld ?r8x17
            case y8x17 => (intro wS hSw; (go_simp))
            simp only [Act.put, List.getElem_toArray, List.getElem_cons_zero, List.getElem_cons_succ, List.setIfInBounds_toArray, List.set_cons_zero, List.set_cons_succ]
            refine wpAnyG_take (i := 9) (v := .int .i64 (p : Int)) rfl (by kernel_rfl) (fun _ _ _ h => h) (Or.inl ⟨by kernel_rfl, ?y9x18⟩) hHeld ?r9x18
            case y9x18 => (intro wS hSw; (go_simp; try simp only [hip, hwp]))
            simp only [Act.put, List.getElem_toArray, List.getElem_cons_zero, List.getElem_cons_succ, List.setIfInBounds_toArray, List.set_cons_zero, List.set_cons_succ]
            refine wpAnyG_take (i := 10) (v := .pointer (some ⟨gL, oL + p, none⟩)) rfl (by kernel_rfl) (fun _ _ _ h => h) (Or.inl ⟨by kernel_rfl, ?y10x19⟩) hHeld ?r10x19
            case y10x19 => (intro wS hSw; (go_simp; try simp only [hpN, hp0, Int.toNat_natCast, if_true]))
            simp only [Act.put, List.getElem_toArray, List.getElem_cons_zero, List.getElem_cons_succ, List.setIfInBounds_toArray, List.set_cons_zero, List.set_cons_succ]
            refine wpAnyG_take (i := 11) (v := .slice qa MP qc) rfl (by kernel_rfl) (fun _ _ _ h => h) (Or.inl ⟨by kernel_rfl, ?y11x20⟩) hHeld ?r11x20
            case y11x20 => (intro wS hSw; obtain ⟨s1, s2⟩ := hSw; go_simp)
            simp only [Act.put, List.getElem_toArray, List.getElem_cons_zero, List.getElem_cons_succ, List.setIfInBounds_toArray, List.set_cons_zero, List.set_cons_succ]
            refine wpAnyG_take (i := 12) (v := .slice (some ⟨gL, oL, none⟩) N cL) rfl (by kernel_rfl) (fun _ _ _ h => h) (Or.inl ⟨by kernel_rfl, ?y12x21⟩) hHeld ?r12x21
            case y12x21 => (intro wS hSw; (go_simp))
            simp only [Act.put, List.getElem_toArray, List.getElem_cons_zero, List.getElem_cons_succ, List.setIfInBounds_toArray, List.set_cons_zero, List.set_cons_succ]
            refine wpAnyG_take (i := 13) (v := .int .i64 (i : Int)) rfl (by kernel_rfl) (fun _ _ _ h => h) (Or.inl ⟨by kernel_rfl, ?y13x22⟩) hHeld ?r13x22
            case y13x22 => (intro wS hSw; (go_simp))
            simp only [Act.put, List.getElem_toArray, List.getElem_cons_zero, List.getElem_cons_succ, List.setIfInBounds_toArray, List.set_cons_zero, List.set_cons_succ]
            refine wpAnyG_take (i := 14) (v := .pointer (some ⟨gL, oL + i, none⟩)) rfl (by kernel_rfl) (fun _ _ _ h => h) (Or.inl ⟨by kernel_rfl, ?y14x23⟩) hHeld ?r14x23
            case y14x23 => (intro wS hSw; (go_simp; try simp only [x0, Int.toNat_natCast, if_true]))
            simp only [Act.put, List.getElem_toArray, List.getElem_cons_zero, List.getElem_cons_succ, List.setIfInBounds_toArray, List.set_cons_zero, List.set_cons_succ]
            refine wpAnyG_take (i := 15) (v := .slice ra M rc) rfl (by kernel_rfl) (fun _ _ _ h => h) (Or.inl ⟨by kernel_rfl, ?y15x24⟩) hHeld ?r15x24
            case y15x24 => (intro wS hSw; obtain ⟨s1, s2⟩ := hSw; go_simp)
            simp only [Act.put, List.getElem_toArray, List.getElem_cons_zero, List.getElem_cons_succ, List.setIfInBounds_toArray, List.set_cons_zero, List.set_cons_succ]
            refine wpAnyG_one (i := 16) rfl (by kernel_rfl) (fun K hK => ?_)
            rw [if_pos (by kernel_rfl)]
            go_simp
            refine (HGr.out _ HW.out.drew).mono ?_
            rintro e wg ⟨rfl, kg⟩
            have kg' : Below wr.heap.size wr wg := (Below.refl _ _).drew.trans (kg.mono (by simp))
            have HWd : Hid (Below w7.heap.size w7 wg) := HW.out.trans (kg'.mono HW.out.size)
            clear hHeld
            have hHeld : wg.cell? ⟨gL, oL + p, none⟩ = some (.slice qa MP qc) ∧ wg.cell? ⟨gL, oL + i, none⟩ = some (.slice ra M rc) := HS.out _ kg'
            clear kg kg'
            refine hK.out _ _ hHeld ?_
            clear hK K
            refine wpAnyG_take (i := 17) (v := .bool false) rfl (by kernel_rfl) (fun _ _ _ h => h) (Or.inl ⟨by kernel_rfl, ?y17x25⟩) hHeld ?r17x25
            case y17x25 => (intro wS hSw; (go_simp))
            simp only [Act.put, List.getElem_toArray, List.getElem_cons_zero, List.getElem_cons_succ, List.setIfInBounds_toArray, List.set_cons_zero, List.set_cons_succ]
            refine wpAnyG_take (i := 18) (v := .bool false) rfl (by kernel_rfl) (fun _ _ _ h => h) (Or.inl ⟨by kernel_rfl, ?y18x26⟩) hHeld ?r18x26
            case y18x26 => (intro wS hSw; (go_simp))
            simp only [Act.put, List.getElem_toArray, List.getElem_cons_zero, List.getElem_cons_succ, List.setIfInBounds_toArray, List.set_cons_zero, List.set_cons_succ]
            refine wpAnyG_last (i := 19) rfl (by kernel_rfl) (by kernel_rfl) (fun K hK => ?_)
            go_simp
            refine hK.out _ _ ?_
            clear hK K
            refine wpAnyG_done (by kernel_rfl) ?_ _
            go_wp2
            go_roundg (N - (i + 1))
            case rel => exact ⟨i + 1, by go_num, rfl, by omega, HWd.out⟩
            case measure => have := HKi.out; omega
    · have ti : decide ((i : Int) < (N : Int)) = false := decide_eq_false (by omega)
      go_wp2
      go_ret
      exact ⟨rfl, K7.out.2.1.trans (HW.out.mono K7.out.2.1.size)⟩

end Go.Proofs.YtmifenflbaohnaaDoor
