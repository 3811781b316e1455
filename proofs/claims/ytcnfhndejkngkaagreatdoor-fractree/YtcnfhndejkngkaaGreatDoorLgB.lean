/- Package long: Of, limb, Plus. -/
import Derived.Test.YtcnfhndejkngkaaGreatDoorJtQ
import Derived.Test.YtcnfhndejkngkaaGreatDoorJtF
set_option linter.unusedSimpArgs false
set_option linter.unusedVariables false
set_option maxRecDepth 100000
namespace Go.Proofs.YtcnfhndejkngkaaGreatDoor
open Go.RowKit LgM

/-- The slice of a number, opened. -/
theorem LN.open {w : World} {v : Value} {n : Nat} (h : LN w v n) : ∃ (k : Nat) (aa : Option Addr) (g o c : Nat), v = .slice aa k c ∧ Nd k n ∧ (0 < k → aa = some ⟨g, o, none⟩) ∧ (∀ i, i < k → w.cell? ⟨g, o + i, none⟩ = some (.int .i64 ((n / Bs ^ i % Bs : Nat) : Int))) ∧ (0 < k → g < w.heap.size) := by
  obtain ⟨k, hk, ⟨aa, g, o, c, e, p, cell, lt⟩, _⟩ := h
  have hl : (nz (dgl k n)).length = k := by rw [nz_len, dgl_len]
  rw [hl] at e p cell lt
  refine ⟨k, aa, g, o, c, e, hk, p, fun i hi => ?_, lt⟩
  rw [cell i hi]
  simp [nz, List.getD_eq_getElem?_getD, dgl, hi]

set_option maxHeartbeats 1000000 in
theorem limb_any (v : Value) (n i : Nat) (w : World) (h : LN w v n) (hi : i ≤ 1000000000) :
    Calls Tryz.prog 141 #[.agg #[v], .int .i64 (i : Int)] w fun e w' => e = .returned (.int .i64 ((n / Bs ^ i % Bs : Nat) : Int)) ∧ Below w.heap.size w w' := by
  obtain ⟨k, aa, g, o, c, rfl, hk, hp, hc, hlt⟩ := h.open
  clear h
  have HC : Hid (∀ i, i < k → w.cell? ⟨g, o + i, none⟩ = some (.int .i64 ((n / Bs ^ i % Bs : Nat) : Int))) := hc
  have HK : Hid (Nd k n) := hk
  obtain ⟨d, hd⟩ : ∃ d, d = n / Bs ^ i % Bs := ⟨_, rfl⟩
  have HD : Hid (d = n / Bs ^ i % Bs) := hd
  rw [← hd]
  clear hc hk hd
  by_cases hik : i < k
  · obtain rfl := hp (by omega)
    have hlt := hlt (by omega)
    have q1 : ∀ x : Obj, (w.alloc x).cell? ⟨g, o + i, none⟩ = some (.int .i64 (d : Int)) := fun x => by
      rw [cell_old_at _ _ _ hlt, HD.out]; exact HC.out i hik
    clear hp
    go_enter Tryz.func141, Tryz.ntmps141
    go_wp2
    go_ret
    exact ⟨rfl, (Below.refl _ _).alloc (Nat.le_refl _) _⟩
  · have hz : d = 0 := by rw [HD.out]; exact HK.out.limb i (by omega)
    subst hz
    clear hp hlt
    go_enter Tryz.func141, Tryz.ntmps141
    go_wp2
    go_ret
    exact ⟨rfl, (Below.refl _ _).alloc (Nat.le_refl _) _⟩

set_option maxHeartbeats 1000000 in
theorem Of_any (n : Nat) (w : World) (hn : n ≤ 9000000000000000000) :
    Calls Tryz.prog 81 #[.int .i64 (n : Int)] w fun e w' => ∃ v, e = .returned (.agg #[v]) ∧ LN w' v n ∧ Below w.heap.size w w' := by
  have hc := carried_any (w.heap.size + 1) 0 n 4 none 0 (w.alloc (.cells #[.slice none 0 0] 116)) (World.ownsRow_nil _ _ _ _) (by simp) (by simpa using hn) (Nat.lt_of_le_of_lt hn (by decide)) (by omega) (by omega)
  simp only [Nat.pow_zero, Nat.div_one] at hc
  have HC : Hid (Calls Tryz.prog 111 #[.slice none 0 0, .int .i64 (n : Int)] (w.alloc (.cells #[.slice none 0 0] 116)) fun e w' => ∃ k a' c', e = .returned (.slice a' k c') ∧ (n < Bs ^ k ∧ (k = 0 ∨ Bs ^ (k - 1) ≤ n)) ∧ w'.ownsRow (w.heap.size + 1) 3 1 (.slice a' k c') k (ints (nz (dgl k n))) ∧ Below (w.heap.size + 1) (w.alloc (.cells #[.slice none 0 0] 116)) w') := hc
  clear hc
  go_enter Tryz.func81, Tryz.ntmps81
  go_wp2_with fail
  refine HC.out.mono ?_
  rintro e w1 ⟨k, a', c', rfl, hk, hrow, hb⟩
  have C1 : Cl w.heap.size [.slice none 0 0] 116 w1 := (Cl.new [.slice none 0 0] 116 w).below (hb.mono (by simp))
  have q1 := C1.cell 0
  have q2 := C1.frozen 0
  have hl : LN w1 (.slice a' k c') n := ⟨k, ⟨hk.1, hk.2⟩, IS.ownL (by rw [nz_len, dgl_len]) hrow, TyI.ownL hrow⟩
  have HL : Hid (LN w1 (.slice a' k c') n) := hl
  have HB : Hid (Below (w.heap.size + 1) (w.alloc (.cells #[.slice none 0 0] 116)) w1) := hb
  have HC1 : Hid (Cl w.heap.size [.slice none 0 0] 116 w1) := C1
  have HR : Hid (w1.ownsRow (w.heap.size + 1) 3 1 (.slice a' k c') k (ints (nz (dgl k n)))) := hrow
  have HKk : Hid (Nd k n) := ⟨hk.1, hk.2⟩
  clear hl hb C1 hrow hk HC
  simp at q1
  go_wp2
  have C2 := HC1.out.set 0 (.slice a' k c')
  have q3 := C2.cell 0
  simp at q3
  refine bodyPost_ret (v := .agg #[.slice a' k c']) (by simp [results, Tryz.results81, go_sem, q3]) rfl ⟨_, rfl, ?_, ?_⟩
  · exact ⟨k, HKk.out, IS.ownL (by rw [nz_len, dgl_len]) (ownsRow_setCell_below HR.out (by show w.heap.size < _; omega) _), (TyI.ownL HR.out).set _ _⟩
  · exact (((Below.refl _ _).alloc (Nat.le_refl _) _).trans (HB.out.mono (by omega))).setCell (by simp) _

/-- What Plus holds while it goes: its two boxes and its answer's. -/
structure Pb (b : Nat) (vx vy : Value) (w : World) : Prop where
  x : Cl b [vx] 116 w
  y : Cl (b + 1) [vy] 116 w
  z : Cl (b + 2) [.slice none 0 0] 116 w
theorem Pb.below {b B : Nat} {vx vy : Value} {w w' : World} (h : Pb b vx vy w) (k : Below B w w') (hB : b + 3 ≤ B) : Pb b vx vy w' :=
  ⟨(k.block _ (by omega)).trans h.x, (k.block _ (by omega)).trans h.y, (k.block _ (by omega)).trans h.z⟩
theorem Pb.start (vx vy : Value) (w : World) : Pb w.heap.size vx vy (((w.alloc (.cells #[vx] 116)).alloc (.cells #[vy] 116)).alloc (.cells #[.slice none 0 0] 116)) := by
  refine ⟨((Cl.new [vx] _ w).alloc _).alloc _, ?_, ?_⟩
  · have := (Cl.new [vy] 116 (w.alloc (.cells #[vx] 116))).alloc (.cells #[.slice none 0 0] 116)
    simpa using this
  · have := (Cl.new [.slice none 0 0] 116 ((w.alloc (.cells #[vx] 116)).alloc (.cells #[vy] 116)))
    simpa using this

set_option maxHeartbeats 4000000 in
theorem Plus_any (vx vy : Value) (x y m : Nat) (w : World) (hx : LN w vx x) (hy : LN w vy y) (hxm : x < Bs ^ m) (hym : y < Bs ^ m) (hm : m ≤ 100000000) :
    Calls Tryz.prog 114 #[.agg #[vx], .agg #[vy]] w fun e w' => ∃ v, e = .returned (.agg #[v]) ∧ LN w' v (x + y) ∧ Below w.heap.size w w' := by
  obtain ⟨i0, hi, hz0, hz1, hz2⟩ := info_parts Tryz.infoInt
  have HI : Hid (Tryz.prog.info? 3 = some i0 ∧ i0.zero = some (.int .i64 0) ∧ i0.size = 1 ∧ i0.bytes = 8) := ⟨hi, hz0, hz1, hz2⟩
  clear hi hz0 hz1 hz2
  have HX : Hid (LN w vx x) := hx
  have HY : Hid (LN w vy y) := hy
  obtain ⟨kx, ax, gx, ox, cx, rfl, nx, _⟩ := hx.open
  obtain ⟨ky, ay, gy, oy, cy, rfl, ny, _⟩ := hy.open
  have hkx := nx.le hxm
  have hky := ny.le hym
  have HNX : Hid (Nd kx x) := nx
  have HNY : Hid (Nd ky y) := ny
  have HXM : Hid (x < Bs ^ m) := hxm
  have HYM : Hid (y < Bs ^ m) := hym
  clear hx hy nx ny hxm hym
  obtain ⟨M, hM⟩ : ∃ M : Nat, max (kx : Int) (ky : Int) = (M : Int) := ⟨max kx ky, by omega⟩
  have hM1 : kx ≤ M ∧ ky ≤ M ∧ M ≤ m := by omega
  go_enter Tryz.func114, Tryz.ntmps114
  have P0 := Pb.start (.slice ax kx cx) (.slice ay ky cy) w
  obtain ⟨W0, hW0⟩ : ∃ W0, W0 = (((w.alloc (.cells #[.slice ax kx cx] 116)).alloc (.cells #[.slice ay ky cy] 116)).alloc (.cells #[.slice none 0 0] 116)) := ⟨_, rfl⟩
  rw [← hW0] at P0
  have z0 : W0.heap.size = w.heap.size + 3 := by rw [hW0]; simp
  have KB0 : Hid (Below w.heap.size w W0) := by
    show Below _ _ _
    rw [hW0]; exact (((Below.refl _ _).alloc (Nat.le_refl _) _).alloc (by simp) _).alloc (by simp; omega) _
  have HP0 : Hid (Pb w.heap.size (.slice ax kx cx) (.slice ay ky cy) W0) := P0
  clear P0
  rename_i hq1 hq2
  clear hq1 hq2
  go_wp2_with (at_make; rw [← hW0]; clear hW0; refine wpList_make_own _ rfl _ _ 65 rfl (w.heap.size + 3) 3 i0 (.int .i64 0) 1 Tryz.underlying65 HI.out.1 HI.out.2.1 HI.out.2.2.1 .i64 .i64 _ (M + 1) rfl rfl (by omega) (by rw [HI.out.2.2.2]; omega) (by unfold maxLen; omega) (by omega) ?_)
  intro wM hown hgrow
  have KB1 : Hid (Below (w.heap.size + 3) W0 wM) := (Below.refl (w.heap.size + 3) W0).grown hgrow (by omega) (by simp)
  have HO1 : Hid (wM.ownsRow (w.heap.size + 3) 3 1 (.slice (some ⟨w.heap.size + 3, 0, none⟩) 0 (M + 1)) 0 []) := hown
  clear hown hgrow
  go_wp2
  go_loopw [6, 7, 20] (fun sv cv iv wx => ∃ (i c : Nat) (a' : Option Addr) (c' : Nat), i ≤ M ∧ c ≤ 1 ∧ sv = .slice a' i c' ∧ cv = .int .i64 (c : Int) ∧ iv = .int .i64 (i : Int) ∧ Hid (c = (x % Bs ^ i + y % Bs ^ i) / Bs ^ i ∧ wx.ownsRow (w.heap.size + 3) 3 1 (.slice a' i c') i (ints (nz (dgl i (x + y)))) ∧ Pb w.heap.size (.slice ax kx cx) (.slice ay ky cy) wx ∧ Below (w.heap.size + 3) W0 wx)) (fun _ _ iv _ => M - (intOf iv).toNat)
  case atStart => exact ⟨0, 0, _, _, Nat.zero_le _, by omega, rfl, rfl, rfl, by simp [Nat.mod_one], HO1.out, HP0.out.below KB1.out (Nat.le_refl _), KB1.out⟩
  case round =>
    clear HO1 KB1
    obtain ⟨i, c, a', c', hiM, hc1, rfl, rfl, rfl, HR⟩ := hrel
    have hP := HR.out.2.2.1
    have hzr : w.heap.size + 3 ≤ wr.heap.size := by have := HR.out.2.2.2.size; omega
    by_cases hiM2 : i < M
    · have HLx : Hid (∀ W, Below (w.heap.size + 3) W0 W → LN W (.slice ax kx cx) x) := fun W k => (HX.out.below KB0.out).below (k.mono (by omega))
      have HLy : Hid (∀ W, Below (w.heap.size + 3) W0 W → LN W (.slice ay ky cy) y) := fun W k => (HY.out.below KB0.out).below (k.mono (by omega))
      obtain ⟨dx, hdx⟩ : ∃ dx, dx = x / Bs ^ i % Bs := ⟨_, rfl⟩
      obtain ⟨dy, hdy⟩ : ∃ dy, dy = y / Bs ^ i % Bs := ⟨_, rfl⟩
      have hdx1 : dx ≤ 999999999 := by rw [hdx]; exact lim_le (Nat.mod_lt _ (by decide))
      have hdy1 : dy ≤ 999999999 := by rw [hdy]; exact lim_le (Nat.mod_lt _ (by decide))
      have HDX : Hid (dx = x / Bs ^ i % Bs) := hdx
      have HDY : Hid (dy = y / Bs ^ i % Bs) := hdy
      clear hdx hdy
      have q1 := hP.x.cell 0
      have q2 := hP.y.cell 0
      simp at q1 q2
      have HPw : Hid (Pb w.heap.size (.slice ax kx cx) (.slice ay ky cy) wr) := hP
      clear hP
      go_wp2
      refine wp_region_G (fun w' => w'.cell? ⟨w.heap.size, 0, none⟩ = some (.slice ax kx cx) ∧ w'.cell? ⟨w.heap.size + 1, 0, none⟩ = some (.slice ay ky cy)) 9 (by kernel_rfl) ⟨q1, q2⟩ (fun hHeld => ?_)
      refine wpAnyG_take (i := 0) (v := ?v0x1) rfl (by kernel_rfl) (fun _ _ _ h => h) (Or.inl ⟨by rfl, ?y0x1⟩) hHeld ?r0x1
      case y0x1 => (intro wS hSw; obtain ⟨s1, s2⟩ := hSw; go_simp; try with_reducible rfl)
      try simp only [Act.put, List.setIfInBounds_toArray, List.set_cons_zero, List.set_cons_succ]
      refine wpAnyG_take (i := 1) (v := ?v1x2) rfl (by kernel_rfl) (fun _ _ _ h => h) (Or.inl ⟨by rfl, ?y1x2⟩) hHeld ?r1x2
      case y1x2 => (intro wS hSw; obtain ⟨s1, s2⟩ := hSw; go_simp; try with_reducible rfl)
      try simp only [Act.put, List.setIfInBounds_toArray, List.set_cons_zero, List.set_cons_succ]
      refine wpAnyG_take (i := 2) (v := ?v2x3) rfl (by kernel_rfl) (fun _ _ _ h => h) (Or.inl ⟨by rfl, ?y2x3⟩) hHeld ?r2x3
      case y2x3 => (intro wS hSw; obtain ⟨s1, s2⟩ := hSw; go_simp; try with_reducible rfl)
      try simp only [Act.put, List.setIfInBounds_toArray, List.set_cons_zero, List.set_cons_succ]
      refine wpAnyG_take (i := 4) (v := ?v4x4) rfl (by kernel_rfl) (fun _ _ _ h => h) (Or.inl ⟨by rfl, ?y4x4⟩) hHeld ?r4x4
      case y4x4 => (intro wS hSw; obtain ⟨s1, s2⟩ := hSw; go_simp; try with_reducible rfl)
      try simp only [Act.put, List.setIfInBounds_toArray, List.set_cons_zero, List.set_cons_succ]
      refine wpAnyG_take (i := 5) (v := ?v5x5) rfl (by kernel_rfl) (fun _ _ _ h => h) (Or.inl ⟨by rfl, ?y5x5⟩) hHeld ?r5x5
      case y5x5 => (intro wS hSw; obtain ⟨s1, s2⟩ := hSw; go_simp; try with_reducible rfl)
      try simp only [Act.put, List.setIfInBounds_toArray, List.set_cons_zero, List.set_cons_succ]
      refine wpAnyG_one (i := 3) rfl (by kernel_rfl) (fun K hK => ?_)
      go_simp
      refine (limb_any _ x i _ (HLx.out _ (HR.out.2.2.2.drew)) (by omega)).mono ?_
      rw [← HDX.out]
      rintro e w1 ⟨rfl, k1⟩
      have KB1 : Hid (Below (w.heap.size + 3) W0 w1) := HR.out.2.2.2.drew.trans (k1.mono hzr)
      have P1 := HPw.out.below (HR.out.2.2.2.drew.trans (k1.mono hzr) |> fun _ => ((Below.refl (w.heap.size + 3) wr).drew.trans (k1.mono hzr))) (Nat.le_refl _)
      have z1 : wr.heap.size ≤ w1.heap.size := k1.size
      have hH1 : w1.cell? ⟨w.heap.size, 0, none⟩ = some (.slice ax kx cx) ∧ w1.cell? ⟨w.heap.size + 1, 0, none⟩ = some (.slice ay ky cy) := by
        have a1 := P1.x.cell 0
        have a2 := P1.y.cell 0
        simp at a1 a2
        exact ⟨a1, a2⟩
      refine hK.out _ _ hH1 ?_
      clear hK K
      try simp only [Act.put, List.setIfInBounds_toArray, List.set_cons_zero, List.set_cons_succ]
      clear hHeld
      have hHeld := hH1
      refine wpAnyG_one (i := 6) rfl (by kernel_rfl) (fun K hK => ?_)
      go_simp
      refine (limb_any _ y i _ (HLy.out _ KB1.out) (by omega)).mono ?_
      rw [← HDY.out]
      rintro e w2 ⟨rfl, k2⟩
      have KB2 : Hid (Below (w.heap.size + 3) W0 w2) := KB1.out.trans (k2.mono (by omega))
      have P2 := P1.below (k2.mono (show w.heap.size + 3 ≤ w1.heap.size by omega)) (Nat.le_refl _)
      have z2 : wr.heap.size ≤ w2.heap.size := Nat.le_trans z1 k2.size
      have hH2 : w2.cell? ⟨w.heap.size, 0, none⟩ = some (.slice ax kx cx) ∧ w2.cell? ⟨w.heap.size + 1, 0, none⟩ = some (.slice ay ky cy) := by
        have a1 := P2.x.cell 0
        have a2 := P2.y.cell 0
        simp at a1 a2
        exact ⟨a1, a2⟩
      refine hK.out _ _ hH2 ?_
      clear hK K
      try simp only [Act.put, List.setIfInBounds_toArray, List.set_cons_zero, List.set_cons_succ]
      clear hHeld
      have hHeld := hH2
      refine wpAnyG_take (i := 7) (v := ?v7x6) rfl (by kernel_rfl) (fun _ _ _ h => h) (Or.inl ⟨by rfl, ?y7x6⟩) hHeld ?r7x6
      case y7x6 => (intro wS hSw; obtain ⟨s1, s2⟩ := hSw; go_simp; try with_reducible rfl)
      try simp only [Act.put, List.setIfInBounds_toArray, List.set_cons_zero, List.set_cons_succ]
      refine wpAnyG_take (i := 8) (v := ?v8x7) rfl (by kernel_rfl) (fun _ _ _ h => h) (Or.inl ⟨by rfl, ?y8x7⟩) hHeld ?r8x7
      case y8x7 => (intro wS hSw; obtain ⟨s1, s2⟩ := hSw; go_simp; try with_reducible rfl)
      try simp only [Act.put, List.setIfInBounds_toArray, List.set_cons_zero, List.set_cons_succ]
      refine wpAnyG_last (i := 9) rfl (by kernel_rfl) (by kernel_rfl) (fun K hK => ?_)
      go_simp
      refine hK.out _ _ ?_
      clear hK K
      try simp only [Act.put, List.setIfInBounds_toArray, List.set_cons_zero, List.set_cons_succ]
      refine wpAnyG_done (by kernel_rfl) ?_ _
      have R2 : Hid (w2.ownsRow (w.heap.size + 3) 3 1 (.slice a' i c') i (ints (nz (dgl i (x + y))))) := row_kept HR.out.2.1 (fun g e => (k2.block g (Nat.lt_of_lt_of_le (HR.out.2.1.lt g e).2 z1)).trans (k1.block g (HR.out.2.1.lt g e).2))
      have HP2 : Hid (Pb w.heap.size (.slice ax kx cx) (.slice ay ky cy) w2) := P2
      have hsum : Hid (c + (dx + dy) = (x % Bs ^ (i + 1) + y % Bs ^ (i + 1)) / Bs ^ i) := by
        show _ = _
        rw [HR.out.1, HDX.out, HDY.out]; exact plus_step x y i
      obtain ⟨t, ht⟩ : ∃ t, t = c + (dx + dy) := ⟨_, rfl⟩
      have ht2 : t ≤ 1999999999 := by omega
      have htI : (c : Int) + ((dx : Int) + (dy : Int)) = (t : Int) := by omega
      have HT : Hid (t = c + (dx + dy)) := ht
      clear k1 k2 P1 P2 hH1 hH2 hHeld q1 q2 ht
      have hw0 : IntKind.i64.wrap ((dx : Int) + (dy : Int)) = (dx : Int) + (dy : Int) := by rw [IntKind.wrap_i64]; omega
      have hw1 : IntKind.i64.wrap ((c : Int) + IntKind.i64.wrap ((dx : Int) + (dy : Int))) = (t : Int) := by rw [hw0, htI, IntKind.wrap_i64]; omega
      simp only [hw1]
      clear hw0 hw1 htI
      go_wp2_with (at_builtin; refine wpList_append_own _ rfl _ _ 65 rfl (w.heap.size + 3) 3 i0 (.int .i64 0) 1 8 Tryz.underlying65 HI.out.1 HI.out.2.1 HI.out.2.2.1 HI.out.2.2.2 rfl (by decide) (.slice a' i c') i (ints (nz (dgl i (x + y)))) rfl (R2.out.alloc _) ⟨w2.heap.size, 0, none⟩ 1 1 [.int .i64 ((t : Int) % 1000000000)] rfl rfl (cell_one_new _ _ _) (by simp [Value.oneCell']) (by simp only [maxLen]; omega) (by omega) (by simp; omega) ?_; intro v' w3 hown' hgrow _; obtain ⟨g', cap', rfl⟩ := ownsRow_succ hown')
      have KB3 : Hid (Below (w.heap.size + 3) w2 w3) := (((Below.refl (w.heap.size + 3) w2).alloc (by omega) _).grown hgrow (by simp; omega) (fun g e => (R2.out.lt g e).1))
      have HN : Hid (w3.ownsRow (w.heap.size + 3) 3 1 (.slice (some ⟨g', 0, none⟩) (i + 1) cap') (i + 1) (ints (nz (dgl (i + 1) (x + y))))) := by
        show World.ownsRow _ _ _ _ _ _ _
        rw [dgl_succ, nz_append]
        have e : nz [(x + y) / Bs ^ i % Bs] = [(t : Int) % 1000000000] := by
          rw [add_div_mod, ← hsum.out, ← HT.out, limb_int]; rfl
        rw [e, ← ints_snoc]
        exact hown'
      clear hown' hgrow
      go_roundw
      case rel =>
        refine ⟨i + 1, t / 1000000000, _, _, by omega, by omega, rfl, by go_num, by go_num, ?_, HN.out, HP2.out.below KB3.out (Nat.le_refl _), KB2.out.trans KB3.out⟩
        rw [HT.out, hsum.out, pow_s, ← Nat.div_div_eq_div_mul]
      case measure => simp [intOf]; omega
    · obtain rfl : i = M := by omega
      have hxM := HNX.out.mod hM1.1
      have hyM := HNY.out.mod hM1.2.1
      have hcM : Hid (c = (x + y) / Bs ^ i) := by
        show _ = _
        rw [HR.out.1, hxM, hyM]
      have hlt2 : x + y < Bs ^ (m + 1) := by
        rw [pow_s]
        have h1 := HXM.out
        have h2 := HYM.out
        have h3 : Bs ^ m * 2 ≤ Bs ^ m * Bs := Nat.mul_le_mul_left _ (by decide)
        omega
      have HC : Hid (Calls Tryz.prog 111 #[.slice a' i c', .int .i64 (c : Int)] wr fun e w' => ∃ k a1 c1, e = .returned (.slice a1 k c1) ∧ (x + y < Bs ^ k ∧ (k = i ∨ Bs ^ (k - 1) ≤ x + y)) ∧ w'.ownsRow (w.heap.size + 3) 3 1 (.slice a1 k c1) k (ints (nz (dgl k (x + y)))) ∧ Below (w.heap.size + 3) wr w') := by
        have h := carried_any (w.heap.size + 3) i (x + y) (m + 1) a' c' wr HR.out.2.1 hzr (by rw [← hcM.out]; omega) hlt2 (by omega) (by omega)
        rw [← hcM.out] at h
        exact h
      have HPw : Hid (Pb w.heap.size (.slice ax kx cx) (.slice ay ky cy) wr) := hP
      clear hP hxM hyM hlt2
      go_wp2_with fail
      refine HC.out.mono ?_
      rintro e w1 ⟨k, a1, c1, rfl, hk, hrow, hb⟩
      have P1 := HPw.out.below hb (Nat.le_refl _)
      have q1 := P1.z.cell 0
      have q2 := P1.z.frozen 0
      simp at q1
      have HKk : Hid (Nd k (x + y)) := by
        refine ⟨hk.1, ?_⟩
        rcases hk.2 with h | h
        · subst h
          rcases Nat.lt_or_ge kx ky with h5 | h5
          · have : k = ky := by omega
            subst this
            exact HNY.out.mono (by omega)
          · have : k = kx := by omega
            subst this
            exact HNX.out.mono (by omega)
        · exact .inr h
      have HROW : Hid (w1.ownsRow (w.heap.size + 3) 3 1 (.slice a1 k c1) k (ints (nz (dgl k (x + y))))) := hrow
      have HB : Hid (Below (w.heap.size + 3) W0 w1) := HR.out.2.2.2.trans hb
      have HP1 : Hid (Pb w.heap.size (.slice ax kx cx) (.slice ay ky cy) w1) := P1
      clear hb hrow P1 hk HC
      go_wp2
      have C2 := HP1.out.z.set 0 (.slice a1 k c1)
      have q3 := C2.cell 0
      simp at q3
      refine bodyPost_ret (v := .agg #[.slice a1 k c1]) (by simp [results, Tryz.results114, go_sem, q3]) rfl ⟨_, rfl, ?_, ?_⟩
      · exact ⟨k, HKk.out, IS.ownL (by rw [nz_len, dgl_len]) (ownsRow_setCell_below HROW.out (by show w.heap.size + 2 < _; omega) _), (TyI.ownL HROW.out).set _ _⟩
      · exact (KB0.out.trans (HB.out.mono (by omega))).setCell (by simp; omega) _

end Go.Proofs.YtcnfhndejkngkaaGreatDoor
