import Derived.Test.YtnkjadpmigpneaaGreatDoorJpF
section
set_option linter.unusedSimpArgs false
set_option linter.unusedVariables false
set_option maxRecDepth 100000
namespace Go.Proofs.YtnkjadpmigpneaaGreatDoor
open Go.RowKit LgM
def Som (v : Value) : Prop := ∃ a k c, v = .slice (some a) k c
def SomF (B : Nat) (v : Value) : Prop := ∃ a k c, v = .slice (some a) k c ∧ B ≤ a.block
theorem SomF.mono {B B' : Nat} {v : Value} (h : SomF B v) (hB : B' ≤ B) : SomF B' v := by obtain ⟨a, k, c, e, g⟩ := h; exact ⟨a, k, c, e, Nat.le_trans hB g⟩
set_option maxHeartbeats 1000000 in
theorem trimmed_some (k n g o c : Nat) (w : World) (hc : ∀ i, i < k → w.cell? ⟨g, o + i, none⟩ = some (.int .i64 ((n / Bs ^ i % Bs : Nat) : Int))) (hlt : TyB w g) (hn : n < Bs ^ k) (hk : k ≤ c) (hkm : k ≤ 1000000000) :
    Calls Tryz.prog 107 #[.slice (some ⟨g, o, none⟩) k c] w fun e w' => ∃ v, e = .returned (.agg #[v]) ∧ LN w' v n ∧ SomF g v ∧ Below w.heap.size w w' := by
  have HTy : Hid (TyB w g) := hlt
  have hlt : g < w.heap.size := by obtain ⟨_, _, h⟩ := HTy.out; exact lt_of_some h
  have HC : Hid (∀ i, i < k → w.cell? ⟨g, o + i, none⟩ = some (.int .i64 ((n / Bs ^ i % Bs : Nat) : Int))) := hc
  have HN : Hid (n < Bs ^ k) := hn
  clear hc hn
  have P0 := Cl.new [.slice none 0 0] 64 w
  obtain ⟨W0, hW0⟩ : ∃ W0, W0 = w.alloc (.cells #[.slice none 0 0] 64) := ⟨_, rfl⟩
  have HP : Hid (Cl w.heap.size [.slice none 0 0] 64 W0) := by rw [hW0]; exact P0
  have KB : Hid (Below w.heap.size w W0) := by show Below _ _ _; rw [hW0]; exact (Below.refl _ _).alloc (Nat.le_refl _) _
  have HC0 : Hid (∀ i, i < k → W0.cell? ⟨g, o + i, none⟩ = some (.int .i64 ((n / Bs ^ i % Bs : Nat) : Int))) := by
    intro i hi
    rw [KB.out.cell (p := ⟨g, o + i, none⟩) hlt]; exact HC.out i hi
  have HLT : Hid (g < w.heap.size) := hlt
  clear P0 hlt
  go_enter Tryz.func107, Tryz.ntmps107
  go_wp2
  rw [← hW0]
  clear hW0
  go_loopw [3] (fun lv wx => ∃ L : Nat, L ≤ k ∧ lv = .int .i64 (L : Int) ∧ Hid (n < Bs ^ L) ∧ wx = W0) (fun lv _ => (intOf lv).toNat)
  case atStart => exact ⟨k, Nat.le_refl _, rfl, HN.out, rfl⟩
  case round =>
    obtain ⟨L, hL, rfl, HL, hwr⟩ := hrel
    subst hwr
    have HEnd : Hid ((L = 0 ∨ n / Bs ^ (L - 1) % Bs ≠ 0) → ∀ W, W = wr.setCell ⟨w.heap.size, 0, none⟩ (.slice (some ⟨g, o, none⟩) L c) → W.cell? ⟨w.heap.size, 0, none⟩ = some (.slice (some ⟨g, o, none⟩) L c) ∧ LN W (.slice (some ⟨g, o, none⟩) L c) n ∧ Below w.heap.size w W) := by
      rintro h W rfl
      have C2 := HP.out.set 0 (.slice (some ⟨g, o, none⟩) L c)
      have q3 := C2.cell 0
      refine ⟨by simpa using q3, ⟨L, ⟨HL.out, ?_⟩, ⟨some ⟨g, o, none⟩, g, o, c, by rw [nz_len, dgl_len], fun _ => rfl, fun i hi => ?_, fun _ => ?_⟩, ?_⟩, KB.out.setCell (by simp) _⟩
      · rcases h with h | h
        · exact .inl h
        · right
          rcases Nat.lt_or_ge n (Bs ^ (L - 1)) with h1 | h1
          · rw [Nat.div_eq_of_lt h1] at h; exact absurd rfl h
          · exact h1
      · rw [nz_len, dgl_len] at hi
        have h1 : (wr.setCell ⟨w.heap.size, 0, none⟩ (.slice (some ⟨g, o, none⟩) L c)).cell? ⟨g, o + i, none⟩ = wr.cell? ⟨g, o + i, none⟩ := by
          have := HLT.out
          rw [World.cell?, World.cell?, Below.heap_setCell _ _ _ g (by simp; omega)]
        rw [h1, HC0.out i (by omega)]
        simp [nz, List.getD_eq_getElem?_getD, dgl, hi]
      · have := HLT.out; have := KB.out.size; simp; omega
      · intro a l c' e hl
        simp only [Value.slice.injEq, Option.some.injEq] at e
        obtain ⟨rfl, _⟩ := e
        exact (HTy.out.below KB.out).set _ _
    have q1 := HP.out.cell 0
    have q2 := HP.out.frozen 0
    simp at q1
    rcases L with _ | L
    · go_wp2
      have HE := HEnd.out (.inl (by trivial)) _ rfl
      refine bodyPost_ret (v := .agg #[.slice (some ⟨g, o, none⟩) 0 c]) (by simp [results, Tryz.results107, go_sem, HE.1]) rfl ⟨_, rfl, HE.2.1, ⟨_, _, _, rfl, Nat.le_refl _⟩, HE.2.2⟩
    · obtain ⟨d, hd⟩ : ∃ d, d = n / Bs ^ L % Bs := ⟨_, rfl⟩
      have hc1 : wr.cell? ⟨g, o + L, none⟩ = some (.int .i64 (d : Int)) := by rw [hd]; exact HC0.out L (by omega)
      have HD : Hid (d = n / Bs ^ L % Bs) := hd
      clear hd
      have hLi : ((L + 1 : Nat) : Int) - 1 = (L : Int) := by omega
      have hpos : decide ((0 : Int) < ((L + 1 : Nat) : Int)) = true := decide_eq_true (by omega)
      by_cases h0 : d = 0
      · subst h0
        go_wp2
        go_roundw
        case rel => exact ⟨L, by omega, by first | rfl | trivial, by
          show n < Bs ^ L
          have h1 := HL.out
          have h2 := HD.out
          rcases Nat.lt_or_ge n (Bs ^ L) with h3 | h3
          · exact h3
          · have h4 : n / Bs ^ L < Bs := by
              rw [Nat.div_lt_iff_lt_mul (bs_pos _), Nat.mul_comm, ← pow_s]; exact h1
            rw [Nat.mod_eq_of_lt h4] at h2
            have := Nat.div_pos h3 (bs_pos L)
            omega, by trivial⟩
        case measure => simp [intOf]
      · have hdb : ((d : Int) == 0) = false := beq_eq_false_iff_ne.2 (by omega)
        go_wp2
        have HE := HEnd.out (.inr (by rw [show L + 1 - 1 = L from rfl, ← HD.out]; exact h0)) _ rfl
        refine bodyPost_ret (v := .agg #[.slice (some ⟨g, o, none⟩) (L + 1) c]) (by simp [results, Tryz.results107, go_sem, HE.1]) rfl ⟨_, rfl, HE.2.1, ⟨_, _, _, rfl, Nat.le_refl _⟩, HE.2.2⟩
theorem trimmed_any (k n g o c : Nat) (w : World) (hc : ∀ i, i < k → w.cell? ⟨g, o + i, none⟩ = some (.int .i64 ((n / Bs ^ i % Bs : Nat) : Int))) (hlt : TyB w g) (hn : n < Bs ^ k) (hk : k ≤ c) (hkm : k ≤ 1000000000) :
    Calls Tryz.prog 107 #[.slice (some ⟨g, o, none⟩) k c] w fun e w' => ∃ v, e = .returned (.agg #[v]) ∧ LN w' v n ∧ Below w.heap.size w w' :=
  (trimmed_some k n g o c w hc hlt hn hk hkm).mono fun e w' ⟨v, h1, h2, _, h3⟩ => ⟨v, h1, h2, h3⟩
theorem LN.zero_iff {w : World} {aa : Option Addr} {k c n : Nat} (h : LN w (.slice aa k c) n) : k = 0 ↔ n = 0 := by
  obtain ⟨j, hj, h2, _⟩ := h
  obtain ⟨a, g, o, c', e, _⟩ := h2.shape
  rw [nz_len, dgl_len] at e
  simp at e
  have := hj.pos
  omega
set_option maxHeartbeats 400000 in
theorem IsZero_any (v : Value) (n : Nat) (w : World) (h : LN w v n) :
    Calls Tryz.prog 104 #[.agg #[v]] w fun e w' => e = .returned (.bool (decide (n = 0))) ∧ Below w.heap.size w w' := by
  obtain ⟨k, aa, g, o, c, rfl, _⟩ := h.open
  have hz := h.zero_iff
  clear h
  by_cases hk : k = 0
  · rw [decide_eq_true (hz.1 hk)]
    have hb : ((k : Int) == 0) = true := beq_iff_eq.2 (by omega)
    clear hz
    go_enter Tryz.func104, Tryz.ntmps104
    go_wp2
    go_ret
    exact ⟨rfl, (Below.refl _ _).alloc (Nat.le_refl _) _⟩
  · rw [decide_eq_false (fun e => hk (hz.2 e))]
    have hb : ((k : Int) == 0) = false := beq_eq_false_iff_ne.2 (by omega)
    clear hz
    go_enter Tryz.func104, Tryz.ntmps104
    go_wp2
    go_ret
    exact ⟨rfl, (Below.refl _ _).alloc (Nat.le_refl _) _⟩
def cmI (x y : Int) : Int := if x < y then -1 else if y < x then 1 else 0
set_option maxHeartbeats 2000000 in
theorem CompareI (x y : Int) (w : World) : Calls Tryz.prog 110 #[.int .i64 x, .int .i64 y] w fun e w' => e = .returned (.int .i64 (cmI x y)) ∧ w' = w := by
  by_cases h1 : x < y
  · have e : cmI x y = -1 := if_pos h1
    rw [e]
    have t1 : decide (x < y) = true := decide_eq_true h1
    clear h1 e
    go_enter Tryz.func110, Tryz.ntmps110
    go_wp2
    go_ret
    exact ⟨rfl, rfl⟩
  · have t1 : decide (x < y) = false := decide_eq_false h1
    by_cases h2 : y < x
    · have e : cmI x y = 1 := by rw [cmI, if_neg h1, if_pos h2]
      rw [e]
      have t2 : decide (y < x) = true := decide_eq_true h2
      clear h1 h2 e
      go_enter Tryz.func110, Tryz.ntmps110
      go_wp2
      go_ret
      exact ⟨rfl, rfl⟩
    · have e : cmI x y = 0 := by rw [cmI, if_neg h1, if_neg h2]
      rw [e]
      have t2 : decide (y < x) = false := decide_eq_false h2
      clear h1 h2 e
      go_enter Tryz.func110, Tryz.ntmps110
      go_wp2
      go_ret
      exact ⟨rfl, rfl⟩
theorem cmI_zero {x y : Int} : cmI x y = 0 ↔ x = y := by unfold cmI; split <;> (try split) <;> omega
end Go.Proofs.YtnkjadpmigpneaaGreatDoor
end

section
set_option linter.unusedSimpArgs false
set_option linter.unusedVariables false
set_option maxRecDepth 100000
namespace Go.Proofs.YtnkjadpmigpneaaGreatDoor
open Go.RowKit LgM
structure Cbx (b : Nat) (vx vy : Value) (w : World) : Prop where
  x : Cl b [vx] 64 w
  y : Cl (b + 1) [vy] 64 w
theorem Cbx.start (vx vy : Value) (w : World) : Cbx w.heap.size vx vy ((w.alloc (.cells #[vx] 64)).alloc (.cells #[vy] 64)) := by
  refine ⟨(Cl.new [vx] _ w).alloc _, ?_⟩
  have := (Cl.new [vy] 64 (w.alloc (.cells #[vx] 64)))
  simpa using this
set_option maxHeartbeats 1000000 in
theorem NCompare_any (vx vy : Value) (x y : Nat) (w : World) (hx : LN w vx x) (hy : LN w vy y) (m : Nat) (hxm : x < Bs ^ m) (hm : m ≤ 1000000000) :
    Calls Tryz.prog 79 #[.agg #[vx], .agg #[vy]] w fun e w' => e = .returned (.int .i64 (cmI x y)) ∧ Below w.heap.size w w' := by
  obtain ⟨kx, ax, gx, ox, cx, rfl, nx, hpx, hcx, hlx⟩ := hx.open
  obtain ⟨ky, ay, gy, oy, cy, rfl, ny, hpy, hcy, hly⟩ := hy.open
  have hkx := nx.le hxm
  clear hx hy hxm
  have P0 := Cbx.start (.slice ax kx cx) (.slice ay ky cy) w
  obtain ⟨W0, hW0⟩ : ∃ W0, W0 = ((w.alloc (.cells #[.slice ax kx cx] 64)).alloc (.cells #[.slice ay ky cy] 64)) := ⟨_, rfl⟩
  rw [← hW0] at P0
  have KB0 : Hid (Below w.heap.size w W0) := by
    show Below _ _ _
    rw [hW0]; exact ((Below.refl _ _).alloc (Nat.le_refl _) _).alloc (by simp) _
  have HP0 : Hid (Cbx w.heap.size (.slice ax kx cx) (.slice ay ky cy) W0) := P0
  have q1 := P0.x.cell 0
  have q2 := P0.y.cell 0
  simp at q1 q2
  have HX : Hid (Nd kx x ∧ (0 < kx → ax = some ⟨gx, ox, none⟩) ∧ (∀ i, i < kx → W0.cell? ⟨gx, ox + i, none⟩ = some (.int .i64 ((x / Bs ^ i % Bs : Nat) : Int)))) := by
    refine ⟨nx, hpx, fun i hi => ?_⟩
    rw [KB0.out.cell (p := ⟨gx, ox + i, none⟩) (hlx (by omega))]; exact hcx i hi
  have HY : Hid (Nd ky y ∧ (0 < ky → ay = some ⟨gy, oy, none⟩) ∧ (∀ i, i < ky → W0.cell? ⟨gy, oy + i, none⟩ = some (.int .i64 ((y / Bs ^ i % Bs : Nat) : Int)))) := by
    refine ⟨ny, hpy, fun i hi => ?_⟩
    rw [KB0.out.cell (p := ⟨gy, oy + i, none⟩) (hly (by omega))]; exact hcy i hi
  clear P0 nx ny hpx hpy hcx hcy hlx hly
  by_cases hk : kx = ky
  · subst hk
    have hcm : cmI (kx : Int) (kx : Int) = 0 := cmI_zero.2 rfl
    go_enter Tryz.func79, Tryz.ntmps79
    go_wp2_with (go_at_call 110; refine (CompareI _ _ _).mono ?_; rw [hcm]; rintro e w' ⟨rfl, hw'⟩; rw [hw']; clear hw' w')
    rw [← hW0]
    clear hW0 hcm
    go_loopw [6] (fun iv wx => ∃ i : Nat, i ≤ kx ∧ iv = .int .i64 ((i : Int) - 1) ∧ Hid (x / Bs ^ i = y / Bs ^ i ∧ (∃ n, wx = W0.drewN n))) (fun iv _ => (intOf iv + 1).toNat)
    case atStart =>
      refine ⟨kx, Nat.le_refl _, rfl, ?_, ⟨0, rfl⟩⟩
      rw [Nat.div_eq_of_lt HX.out.1.lt, Nat.div_eq_of_lt HY.out.1.lt]
    case round =>
      obtain ⟨i, hi, rfl, HR⟩ := hrel
      have HCe : Hid (∀ p, wr.cell? p = W0.cell? p) := by
        obtain ⟨n, hn⟩ := HR.out.2
        intro p; rw [hn]; rfl
      rw [← HCe.out] at q1 q2
      have HKB : Hid (∀ n, Below w.heap.size w (wr.drewN n)) := by
        intro n
        obtain ⟨m, hm⟩ := HR.out.2
        rw [hm]
        exact below_drewN' (below_drewN' KB0.out)
      rcases i with _ | i
      · have e0 : x = y := by have := HR.out.1; simpa using this
        obtain ⟨I, hI⟩ : ∃ I : Int, I = ((0 : Nat) : Int) - 1 := ⟨_, rfl⟩
        rw [← hI]
        have hI2 : I < 0 := by omega
        clear hI
        go_wp2
        go_ret
        refine ⟨?_, HKB.out 0⟩
        rw [cmI_zero.2 (by omega)]; rfl
      · have hji : ((i + 1 : Nat) : Int) - 1 = (i : Int) := by omega
        rw [hji]
        clear hji
        obtain rfl := HX.out.2.1 (by omega)
        obtain rfl := HY.out.2.1 (by omega)
        obtain ⟨dx, hdx⟩ : ∃ dx, dx = x / Bs ^ i % Bs := ⟨_, rfl⟩
        obtain ⟨dy, hdy⟩ : ∃ dy, dy = y / Bs ^ i % Bs := ⟨_, rfl⟩
        have c1 : wr.cell? ⟨gx, ox + i, none⟩ = some (.int .i64 (dx : Int)) := by rw [HCe.out, hdx]; exact HX.out.2.2 i (by omega)
        have c2 : wr.cell? ⟨gy, oy + i, none⟩ = some (.int .i64 (dy : Int)) := by rw [HCe.out, hdy]; exact HY.out.2.2 i (by omega)
        have HDX : Hid (dx = x / Bs ^ i % Bs) := hdx
        have HDY : Hid (dy = y / Bs ^ i % Bs) := hdy
        clear hdx hdy
        obtain ⟨C, hC⟩ : ∃ C, cmI (dx : Int) (dy : Int) = C := ⟨_, rfl⟩
        have HC : Hid (cmI (dx : Int) (dy : Int) = C) := hC
        have HCm : Hid (∀ W : World, Calls Tryz.prog 110 #[.int .i64 (dx : Int), .int .i64 (dy : Int)] W fun e w' => e = .returned (.int .i64 C) ∧ w' = W) := fun W => by rw [← hC]; exact CompareI _ _ _
        clear hC
        by_cases h0 : C = 0
        · have hb : (C != 0) = false := by simp [h0]
          clear h0
          go_wp2
          go_quiet ((go_at_call 110; exact Calls.quiet_of_same (HCm.out _)))
          go_wp2
          go_roundw
          case rel =>
            refine ⟨i, by omega, by go_num, ?_, ?_⟩
            · have e : C = 0 := by simpa using hb
              have := cmI_zero.1 (HC.out.trans e)
              exact cmp_same x y i HR.out.1 (by have := HDX.out; have := HDY.out; omega)
            · obtain ⟨m, hm⟩ := HR.out.2
              exact ⟨_, by rw [hm, World.drewN_drewN]⟩
          case measure => simp [intOf] <;> omega
        · have hb : (C != 0) = true := by simp [h0]
          have HE : Hid (cmI (x : Int) (y : Int) = C) := by
            show _ = _
            rw [← HC.out]
            have hdx := HDX.out
            have hdy := HDY.out
            rcases Nat.lt_trichotomy dx dy with h | h | h
            · have := cmp_from x y i HR.out.1 (by omega)
              rw [cmI, if_pos (by omega), cmI, if_pos (by omega)]
            · exact absurd (by rw [← HC.out]; exact cmI_zero.2 (by omega)) h0
            · have := cmp_from y x i HR.out.1.symm (by omega)
              rw [cmI, if_neg (by omega), if_pos (by omega), cmI, if_neg (by omega), if_pos (by omega)]
          clear h0
          go_wp2
          go_quiet ((go_at_call 110; exact Calls.quiet_of_same (HCm.out _)))
          go_wp2
          go_ret
          exact ⟨by rw [HE.out]; rfl, HKB.out _⟩
  · obtain ⟨C, hC⟩ : ∃ C, cmI (kx : Int) (ky : Int) = C := ⟨_, rfl⟩
    have hb : (C != 0) = true := by
      rw [bne_iff_ne, ← hC]
      intro e
      have := cmI_zero.1 e
      omega
    have HE : Hid (cmI (x : Int) (y : Int) = C) := by
      show _ = _
      rw [← hC]
      rcases Nat.lt_trichotomy kx ky with h | h | h
      · have := HX.out.1.lt_of_len HY.out.1 h
        rw [cmI, if_pos (by omega), cmI, if_pos (by omega)]
      · exact absurd h hk
      · have := HY.out.1.lt_of_len HX.out.1 h
        rw [cmI, if_neg (by omega), if_pos (by omega), cmI, if_neg (by omega), if_pos (by omega)]
    have HCm : Hid (∀ W : World, Calls Tryz.prog 110 #[.int .i64 (kx : Int), .int .i64 (ky : Int)] W fun e w' => e = .returned (.int .i64 C) ∧ w' = W) := fun W => by rw [← hC]; exact CompareI _ _ _
    clear hC hk
    go_enter Tryz.func79, Tryz.ntmps79
    go_wp2_with (go_at_call 110; refine (HCm.out _).mono ?_; rintro e w' ⟨rfl, hw'⟩; rw [hw']; clear hw' w')
    go_ret
    exact ⟨by rw [HE.out]; rfl, by rw [← hW0]; exact KB0.out⟩
end Go.Proofs.YtnkjadpmigpneaaGreatDoor
end
