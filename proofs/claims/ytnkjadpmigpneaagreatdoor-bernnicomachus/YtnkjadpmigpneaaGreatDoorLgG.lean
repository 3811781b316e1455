import Derived.Test.YtnkjadpmigpneaaGreatDoorJpG
set_option linter.unusedSimpArgs false
set_option linter.unusedVariables false
set_option maxRecDepth 100000
namespace Go.Proofs.YtnkjadpmigpneaaGreatDoor
open Go.RowKit LgM
theorem cl_of_mk {w' : World} {b n : Nat} (h : w'.ownsRow b 3 1 (.slice (some ⟨b, 0, none⟩) n n) n (madeCells #[Value.int .i64 0] n).toList) : Cl b (List.replicate n (.int .i64 0)) 3 w' := by
  obtain ⟨h1, h2 | ⟨g, cap, cur, e1, e2, e3, e4, e5, e6, e7⟩⟩ := h
  · obtain ⟨h2, rfl⟩ := h2
    simp at h2
  · simp at e1
    obtain ⟨rfl, rfl⟩ := e1
    unfold Cl
    rw [e3]
    have : cur.toList = (madeCells #[Value.int .i64 0] n).toList := by
      rw [← e7, List.take_of_length_le (by simp; omega)]
    have e8 : cur = madeCells #[Value.int .i64 0] n := Array.toList_inj.1 this
    rw [e8]
    congr 2
    apply Array.ext
    · simp [madeCells]
    · intro i h1 h2
      simp [madeCells, Nat.mod_one]
def icn (k : Nat) (B : Nat → Int) : List Value := (List.range k).map fun j => .int .i64 (B j)
theorem icn_zero (k : Nat) : icn k (fun _ => 0) = List.replicate k (.int .i64 0) := by
  apply List.ext_getElem?
  intro i
  by_cases hi : i < k
  · simp [icn, hi]
  · simp [icn, hi]
theorem icn_set {k i : Nat} (B : Nat → Int) (v : Int) : (icn k B).set i (.int .i64 v) = icn k (fun j => if j = i then v else B j) := by
  apply List.ext_getElem?
  intro j
  rw [List.getElem?_set]
  by_cases hj : i = j
  · subst hj
    by_cases hk : i < k
    · simp [icn, hk]
    · simp [icn, hk]
  · rw [if_neg hj]
    by_cases hk : j < k
    · simp [icn, hk, show j ≠ i from fun e => hj e.symm]
    · simp [icn, hk]
theorem icn_get {k : Nat} (B : Nat → Int) {i : Nat} (h : i < k) : (icn k B)[i]? = some (.int .i64 (B i)) := by simp [icn, h]
theorem LN.set {w : World} {v : Value} {n b : Nat} {a : Option Addr} {k c : Nat} {t : TypeId} (h : LN w v n) (hc : Cl b [.slice a k c] t w) (u : Value) : LN (w.setCell ⟨b, 0, none⟩ u) v n := by
  obtain ⟨j, hj, ⟨aa, g, o, c', e, p, cell, lt⟩, hty⟩ := h
  refine ⟨j, hj, ⟨aa, g, o, c', e, p, fun i hi => ?_, fun hp => by have := lt hp; simp; omega⟩, hty.set _ _⟩
  have hne : g ≠ b := by
    intro e2
    subst e2
    have h1 := cell i hi
    rw [hc.cell] at h1
    rcases ho : o + i with _ | s
    · rw [ho] at h1; simp at h1
    · rw [ho] at h1; simp at h1
  rw [World.cell?, Below.heap_setCell _ _ _ g (by simpa using hne)]
  exact cell i hi
set_option maxHeartbeats 4000000 in
theorem NMinus_some (vx vy : Value) (x y m : Nat) (w : World) (hx : LN w vx x) (hy : LN w vy y) (hxm : x < Bs ^ m) (hm : m ≤ 100000000) (hyx : y ≤ x) :
    Calls Tryz.prog 108 #[.agg #[vx], .agg #[vy]] w fun e w' => ∃ v, e = .returned (.agg #[v]) ∧ LN w' v (x - y) ∧ SomF w.heap.size v ∧ Below w.heap.size w w' := by
  obtain ⟨i0, hi, hz0, hz1, hz2⟩ := info_parts Tryz.infoInt
  have HY : Hid (LN w vy y) := hy
  obtain ⟨kx, ax, gx, ox, cx, rfl, nx, hpx, hcx, hlx⟩ := hx.open
  have hkx := nx.le hxm
  have HXm : Hid (x < Bs ^ kx) := nx.lt
  have HPX : Hid (0 < kx → ax = some ⟨gx, ox, none⟩) := hpx
  have HCX : Hid (∀ i, i < kx → w.cell? ⟨gx, ox + i, none⟩ = some (.int .i64 ((x / Bs ^ i % Bs : Nat) : Int))) := hcx
  have HLX : Hid (0 < kx → gx < w.heap.size) := hlx
  have HYX : Hid (y ≤ x) := hyx
  clear hx hy nx hpx hcx hlx hxm hyx
  have P0 := Pb.start (.slice ax kx cx) vy w
  obtain ⟨W0, hW0⟩ : ∃ W0, W0 = (((w.alloc (.cells #[.slice ax kx cx] 64)).alloc (.cells #[vy] 64)).alloc (.cells #[.slice none 0 0] 64)) := ⟨_, rfl⟩
  rw [← hW0] at P0
  have z0 : W0.heap.size = w.heap.size + 3 := by rw [hW0]; simp
  have KB0 : Hid (Below w.heap.size w W0) := by
    show Below _ _ _
    rw [hW0]; exact (((Below.refl _ _).alloc (Nat.le_refl _) _).alloc (by simp) _).alloc (by simp; omega) _
  have HP0 : Hid (Pb w.heap.size (.slice ax kx cx) vy W0) := P0
  clear P0
  go_enter Tryz.func108, Tryz.ntmps108
  go_wp2_with (at_make; rw [← hW0]; refine wpList_make_full _ rfl _ _ 62 rfl W0.heap.size 3 i0 (.int .i64 0) 1 Tryz.underlying62 hi hz0 hz1 .i64 .i64 _ _ kx rfl rfl (by omega) (by omega) (by rw [hz2]; omega) (by unfold maxLen; omega) (Nat.le_refl _) ?_)
  intro w1 hown hgrow
  have hcl := cl_of_mk hown
  rw [← icn_zero] at hcl
  have HCl : Hid (Cl (w.heap.size + 1 + 1 + 1) (icn kx (fun _ => 0)) 3 w1) := hcl
  have HB : Hid (Below (w.heap.size + 3) W0 w1) := by
    have := (Below.refl W0.heap.size W0).grown (hW0 ▸ hgrow) (Nat.le_refl _) (by simp)
    rw [z0] at this; exact this
  have z1 : w.heap.size + 3 ≤ w1.heap.size := by have := HB.out.size; omega
  have q1 := (HP0.out.below HB.out (by omega)).x.cell 0
  simp at q1
  clear hown hgrow hcl hi hz0 hz1 hz2 hW0
  go_wp2
  clear q1
  go_loopw [6, 16] (fun bv iv wx => ∃ (i b : Nat) (B : Nat → Int), i ≤ kx ∧ b ≤ 1 ∧ bv = .int .i64 (b : Int) ∧ iv = .int .i64 (i : Int) ∧ Hid (b = bw x y i ∧ (∀ j, j < i → B j = (((x - y) / Bs ^ j % Bs : Nat) : Int)) ∧ Cl (w.heap.size + 1 + 1 + 1) (icn kx B) 3 wx ∧ Below (w.heap.size + 3) W0 wx)) (fun _ iv _ => kx - (intOf iv).toNat)
  case atStart => exact ⟨0, 0, fun _ => 0, Nat.zero_le _, by omega, rfl, rfl, by rw [bw_zero], fun j hj => absurd hj (Nat.not_lt_zero _), HCl.out, HB.out⟩
  case round =>
    clear z1 HB HCl
    obtain ⟨i, b, B, hi, hb, rfl, rfl, HR⟩ := hrel
    by_cases hlt : i < kx
    · obtain rfl := HPX.out (by omega)
      obtain ⟨dx, hdx⟩ : ∃ dx, dx = x / Bs ^ i % Bs := ⟨_, rfl⟩
      obtain ⟨dy, hdy⟩ : ∃ dy, dy = y / Bs ^ i % Bs := ⟨_, rfl⟩
      have hdx1 : dx ≤ 999999999 := by rw [hdx]; exact limb_lt x i
      have hdy1 : dy ≤ 999999999 := by rw [hdy]; exact limb_lt y i
      have HPw : Hid (Pb w.heap.size (.slice (some ⟨gx, ox, none⟩) kx cx) vy wr) := HP0.out.below HR.out.2.2.2 (Nat.le_refl _)
      have q1 : wr.cell? ⟨gx, ox + i, none⟩ = some (.int .i64 (dx : Int)) := by
        have hl := HLX.out (by omega)
        rw [hdx, (KB0.out.trans (HR.out.2.2.2.mono (by omega))).cell (p := ⟨gx, ox + i, none⟩) hl]; exact HCX.out i hlt
      have q2 := HPw.out.y.cell 0
      simp at q2
      have HLy : Hid (LN wr vy y) := (HY.out.below KB0.out).below (HR.out.2.2.2.mono (by omega))
      have HD : Hid (dx = x / Bs ^ i % Bs ∧ dy = y / Bs ^ i % Bs) := ⟨hdx, hdy⟩
      have HLm : Hid (Calls Tryz.prog 116 #[.agg #[vy], .int .i64 (i : Int)] wr fun e w' => e = .returned (.int .i64 (dy : Int)) ∧ Below wr.heap.size wr w') := by
        have := limb_any vy y i wr HLy.out (by omega)
        rw [← hdy] at this
        exact this
      clear hdx hdy
      have zr : w.heap.size + 3 ≤ wr.heap.size := by have := HR.out.2.2.2.size; omega
      have HZr : Hid (w.heap.size + 3 ≤ wr.heap.size) := zr
      clear zr
      go_wp2_with fail
      refine HLm.out.mono ?_
      rintro e w2 ⟨rfl, k2⟩
      have HK2 : Hid (Below (w.heap.size + 3) W0 w2) := HR.out.2.2.2.trans (k2.mono HZr.out)
      have HC2 : Hid (Cl (w.heap.size + 1 + 1 + 1) (icn kx B) 3 w2) := HR.out.2.2.1.below k2
      have hc : w2.cell? ⟨w.heap.size + 1 + 1 + 1, i, none⟩ = some (.int .i64 (B i)) := by rw [HC2.out.cell i]; exact icn_get B hlt
      have hf : w2.frozen? ⟨w.heap.size + 1 + 1 + 1, i, none⟩ = false := HC2.out.frozen i
      clear k2 q1 q2
      have hmd := minus_dgt x y i HYX.out
      have hmb := minus_bw x y i HYX.out
      rw [← HD.out.1, ← HD.out.2, ← HR.out.1] at hmd hmb
      have HNew : Hid (∀ d : Nat, d = (x - y) / Bs ^ i % Bs → Cl (w.heap.size + 1 + 1 + 1) (icn kx (fun j => if j = i then (d : Int) else B j)) 3 (w2.setCell ⟨w.heap.size + 1 + 1 + 1, i, none⟩ (.int .i64 (d : Int))) ∧ Below (w.heap.size + 3) W0 (w2.setCell ⟨w.heap.size + 1 + 1 + 1, i, none⟩ (.int .i64 (d : Int))) ∧ ∀ j, j < i + 1 → (if j = i then (d : Int) else B j) = (((x - y) / Bs ^ j % Bs : Nat) : Int)) := by
        intro d hd
        refine ⟨by rw [← icn_set]; exact HC2.out.set i _, HK2.out.setCell (by simp) _, fun j hj => ?_⟩
        by_cases hji : j = i
        · rw [if_pos hji, hd, hji]
        · rw [if_neg hji]; exact HR.out.2.1 j (by omega)
      obtain ⟨d, hd⟩ : ∃ d, d = (x - y) / Bs ^ i % Bs := ⟨_, rfl⟩
      obtain ⟨b', hb'⟩ : ∃ b', b' = bw x y (i + 1) := ⟨_, rfl⟩
      rw [← hd] at hmd
      rw [← hb'] at hmb
      have HNd := HNew.out d hd
      have HN2 : Hid (Cl (w.heap.size + 1 + 1 + 1) (icn kx (fun j => if j = i then (d : Int) else B j)) 3 (w2.setCell ⟨w.heap.size + 1 + 1 + 1, i, none⟩ (.int .i64 (d : Int))) ∧ Below (w.heap.size + 3) W0 (w2.setCell ⟨w.heap.size + 1 + 1 + 1, i, none⟩ (.int .i64 (d : Int))) ∧ ∀ j, j < i + 1 → (if j = i then (d : Int) else B j) = (((x - y) / Bs ^ j % Bs : Nat) : Int)) := HNd
      have HB' : Hid (b' = bw x y (i + 1)) := hb'
      clear HNd HNew hd hb' HLm HLy HPw
      by_cases hneg : dx < dy + b
      · rw [if_pos hneg] at hmd hmb
        have ht : decide ((dx : Int) - ((dy : Int) + (b : Int)) < 0) = true := decide_eq_true (by omega)
        have hs : (dx : Int) - ((dy : Int) + (b : Int)) + 1000000000 = (d : Int) := by rw [hmd]; unfold Bs; omega
        have HBb : Hid (b' = 1) := hmb
        have hdl : d ≤ 1000000000 := by rw [hmd]; unfold Bs; omega
        clear hmd hmb
        go_wp2
        go_roundw
        case rel => exact ⟨i + 1, 1, _, by omega, by omega, by first | rfl | go_num, by go_num, HBb.out.symm.trans HB'.out, HN2.out.2.2, HN2.out.1, HN2.out.2.1⟩
        case measure => simp [intOf]; omega
      · rw [if_neg hneg] at hmd hmb
        have ht : decide ((dx : Int) - ((dy : Int) + (b : Int)) < 0) = false := decide_eq_false (by omega)
        have hs : (dx : Int) - ((dy : Int) + (b : Int)) = (d : Int) := by rw [hmd]; omega
        have HBb : Hid (b' = 0) := hmb
        have hdl : d ≤ 1000000000 := by rw [hmd]; omega
        clear hmd hmb
        go_wp2
        go_roundw
        case rel => exact ⟨i + 1, 0, _, by omega, by omega, by first | rfl | go_num, by go_num, HBb.out.symm.trans HB'.out, HN2.out.2.2, HN2.out.1, HN2.out.2.1⟩
        case measure => simp [intOf]; omega
    · obtain rfl : i = kx := by omega
      have HT : Hid (Calls Tryz.prog 107 #[.slice (some ⟨w.heap.size + 1 + 1 + 1, 0, none⟩) i i] wr fun e w' => ∃ v, e = .returned (.agg #[v]) ∧ LN w' v (x - y) ∧ SomF (w.heap.size + 1 + 1 + 1) v ∧ Below wr.heap.size wr w') := by
        refine trimmed_some i (x - y) (w.heap.size + 1 + 1 + 1) 0 i wr (fun j hj => ?_) ⟨_, _, HR.out.2.2.1⟩ (by have := HXm.out; omega) (Nat.le_refl _) (by omega)
        rw [Nat.zero_add, HR.out.2.2.1.cell j, icn_get B hj, HR.out.2.1 j hj]
      have HZr : Hid (w.heap.size + 3 ≤ wr.heap.size) := by have := HR.out.2.2.2.size; show _ ≤ _; omega
      go_wp2_with fail
      refine HT.out.mono ?_
      rintro e w2 ⟨v, rfl, hv, hsv, k2⟩
      have HSv : Hid (SomF w.heap.size v) := hsv.mono (by omega)
      clear hsv
      have HK2 : Hid (Below (w.heap.size + 3) W0 w2) := HR.out.2.2.2.trans (k2.mono HZr.out)
      have hP2 := HP0.out.below HK2.out (Nat.le_refl _)
      have q1 := hP2.z.cell 0
      have q2 := hP2.z.frozen 0
      simp at q1
      have HV : Hid (LN w2 v (x - y)) := hv
      have HP2 : Hid (Pb w.heap.size (.slice ax i cx) vy w2) := hP2
      obtain ⟨kv, av, gv, ov, cv, rfl, _⟩ := hv.open
      clear k2 hv HT hP2
      go_wp2
      have C2 := HP2.out.z.set 0 (.slice av kv cv)
      have q3 := C2.cell 0
      simp at q3
      refine bodyPost_ret (v := .agg #[.slice av kv cv]) (by simp [results, Tryz.results108, go_sem, q3]) rfl ⟨_, rfl, ?_, HSv.out, ?_⟩
      · exact HV.out.set HP2.out.z _
      · exact (KB0.out.trans (HK2.out.mono (by omega))).setCell (by simp; omega) _
theorem NMinus_any (vx vy : Value) (x y m : Nat) (w : World) (hx : LN w vx x) (hy : LN w vy y) (hxm : x < Bs ^ m) (hm : m ≤ 100000000) (hyx : y ≤ x) :
    Calls Tryz.prog 108 #[.agg #[vx], .agg #[vy]] w fun e w' => ∃ v, e = .returned (.agg #[v]) ∧ LN w' v (x - y) ∧ Below w.heap.size w w' :=
  (NMinus_some vx vy x y m w hx hy hxm hm hyx).mono fun e w' ⟨v, h1, h2, _, h3⟩ => ⟨v, h1, h2, h3⟩
end Go.Proofs.YtnkjadpmigpneaaGreatDoor
