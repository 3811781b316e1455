/- Package long: Times. -/
import Derived.Test.YtpgedkdaflgfoafGreatDoorLgB
set_option linter.unusedSimpArgs false
set_option linter.unusedVariables false
set_option maxRecDepth 100000
namespace Go.Proofs.YtpgedkdaflgfoafGreatDoor
open Go.RowKit LgM

structure Tb (b : Nat) (vx : Value) (w : World) : Prop where
  x : Cl b [vx] 85 w
  z : Cl (b + 1) [.slice none 0 0] 85 w
theorem Tb.below {b B : Nat} {vx : Value} {w w' : World} (h : Tb b vx w) (k : Below B w w') (hB : b + 2 ≤ B) : Tb b vx w' :=
  ⟨(k.block _ (by omega)).trans h.x, (k.block _ (by omega)).trans h.z⟩
theorem Tb.start (vx : Value) (w : World) : Tb w.heap.size vx ((w.alloc (.cells #[vx] 85)).alloc (.cells #[.slice none 0 0] 85)) := by
  refine ⟨(Cl.new [vx] _ w).alloc _, ?_⟩
  have := (Cl.new [.slice none 0 0] 85 (w.alloc (.cells #[vx] 85)))
  simpa using this

set_option maxHeartbeats 4000000 in
theorem Times_any (vx : Value) (x t m : Nat) (w : World) (hx : LN w vx x) (hxm : x < Bs ^ m) (hm : m ≤ 100000) (ht : t ≤ 1000000000) :
    Calls Tryz.prog 108 #[.agg #[vx], .int .i64 (t : Int)] w fun e w' => ∃ v, e = .returned (.agg #[v]) ∧ LN w' v (x * t) ∧ Below w.heap.size w w' := by
  obtain ⟨i0, hi, hz0, hz1, hz2⟩ := info_parts Tryz.infoInt
  have HI : Hid (Tryz.prog.info? 3 = some i0 ∧ i0.zero = some (.int .i64 0) ∧ i0.size = 1 ∧ i0.bytes = 8) := ⟨hi, hz0, hz1, hz2⟩
  clear hi hz0 hz1 hz2
  obtain ⟨kx, ax, gx, ox, cx, rfl, nx, hpx, hcx, hlx⟩ := hx.open
  have hkx := nx.le hxm
  have HNX : Hid (Nd kx x) := nx
  have HXM : Hid (x < Bs ^ m) := hxm
  have HPX : Hid (0 < kx → ax = some ⟨gx, ox, none⟩) := hpx
  have HCX : Hid (∀ i, i < kx → w.cell? ⟨gx, ox + i, none⟩ = some (.int .i64 ((x / Bs ^ i % Bs : Nat) : Int))) := hcx
  have HLX : Hid (0 < kx → gx < w.heap.size) := hlx
  clear hx nx hxm hpx hcx hlx
  have P0 := Tb.start (.slice ax kx cx) w
  obtain ⟨W0, hW0⟩ : ∃ W0, W0 = ((w.alloc (.cells #[.slice ax kx cx] 85)).alloc (.cells #[.slice none 0 0] 85)) := ⟨_, rfl⟩
  rw [← hW0] at P0
  have z0 : W0.heap.size = w.heap.size + 2 := by rw [hW0]; simp
  have KB0 : Hid (Below w.heap.size w W0) := by
    show Below _ _ _
    rw [hW0]; exact ((Below.refl _ _).alloc (Nat.le_refl _) _).alloc (by simp) _
  have HP0 : Hid (Tb w.heap.size (.slice ax kx cx) W0) := P0
  clear P0
  by_cases ht0 : t = 0
  · subst ht0
    have q1 := HP0.out.z.cell 0
    have q2 := HP0.out.z.frozen 0
    simp at q1
    go_enter Tryz.func108, Tryz.ntmps108
    go_wp2
    rw [← hW0]
    refine bodyPost_ret (v := .agg #[.slice none 0 0]) (by simp [results, Tryz.results108, go_sem, q1]) rfl ⟨_, rfl, ?_, ?_⟩
    · rw [Nat.mul_zero]; exact LN.zero _
    · exact KB0.out
  · have htb : ((t : Int) == 0) = false := beq_eq_false_iff_ne.2 (by omega)
    go_enter Tryz.func108, Tryz.ntmps108
    go_wp2
    rw [← hW0]
    clear hW0 htb
    go_loopw [5, 6, 15] (fun sv cv iv wx => ∃ (i c : Nat) (a' : Option Addr) (c' : Nat), i ≤ kx ∧ c ≤ 1000000000 ∧ sv = .slice a' i c' ∧ cv = .int .i64 (c : Int) ∧ iv = .int .i64 (i : Int) ∧ Hid (c = x % Bs ^ i * t / Bs ^ i ∧ wx.ownsRow (w.heap.size + 2) 3 1 (.slice a' i c') i (ints (nz (dgl i (x * t)))) ∧ Tb w.heap.size (.slice ax kx cx) wx ∧ Below (w.heap.size + 2) W0 wx)) (fun _ _ iv _ => kx - (intOf iv).toNat)
    case atStart => exact ⟨0, 0, none, 0, Nat.zero_le _, by omega, rfl, rfl, rfl, by simp [Nat.mod_one], World.ownsRow_nil _ _ _ _, HP0.out, Below.refl _ _⟩
    case round =>
      obtain ⟨i, c, a', c', hiM, hc1, rfl, rfl, rfl, HR⟩ := hrel
      have hP := HR.out.2.2.1
      have hzr : w.heap.size + 2 ≤ wr.heap.size := by have := HR.out.2.2.2.size; omega
      by_cases hiM2 : i < kx
      · obtain rfl := HPX.out (by omega)
        obtain ⟨dx, hdx⟩ : ∃ dx, dx = x / Bs ^ i % Bs := ⟨_, rfl⟩
        have hdx1 : dx ≤ 999999999 := by rw [hdx]; exact lim_le (Nat.mod_lt _ (by decide))
        have q1 : wr.cell? ⟨gx, ox + i, none⟩ = some (.int .i64 (dx : Int)) := by
          have hl := HLX.out (by omega)
          rw [hdx, (KB0.out.trans (HR.out.2.2.2.mono (by omega))).cell (p := ⟨gx, ox + i, none⟩) hl]; exact HCX.out i hiM2
        have HDX : Hid (dx = x / Bs ^ i % Bs) := hdx
        have HPw : Hid (Tb w.heap.size (.slice (some ⟨gx, ox, none⟩) kx cx) wr) := hP
        obtain ⟨P, hPe⟩ : ∃ P, P = dx * t := ⟨_, rfl⟩
        have hPb : P ≤ 999999999000000000 := by
          have := Nat.mul_le_mul hdx1 ht
          omega
        have hPI : (dx : Int) * (t : Int) = (P : Int) := by rw [hPe, Int.natCast_mul]
        have hsum : Hid (c + P = x % Bs ^ (i + 1) * t / Bs ^ i) := by
          show _ = _
          rw [HR.out.1, hPe, hdx]; exact times_step x t i
        obtain ⟨s, hs⟩ : ∃ s, s = c + P := ⟨_, rfl⟩
        have hs2 : s ≤ 1000000000000000000 := by omega
        have hsI : (c : Int) + (P : Int) = (s : Int) := by omega
        have HT : Hid (s = c + P) := hs
        clear hdx hP hPe hs
        go_wp2_with (at_builtin; refine wpList_append_own _ rfl _ _ 34 rfl (w.heap.size + 2) 3 i0 (.int .i64 0) 1 8 Tryz.underlying34 HI.out.1 HI.out.2.1 HI.out.2.2.1 HI.out.2.2.2 rfl (by decide) (.slice a' i c') i (ints (nz (dgl i (x * t)))) rfl (HR.out.2.1.alloc _) ⟨wr.heap.size, 0, none⟩ 1 1 [.int .i64 ((s : Int) % 1000000000)] rfl rfl (cell_one_new _ _ _) (by simp [Value.oneCell']) (by simp only [maxLen]; omega) (by omega) (by simp; omega) ?_; intro v' w3 hown' hgrow _; obtain ⟨g', cap', rfl⟩ := ownsRow_succ hown')
        have KB3 : Hid (Below (w.heap.size + 2) wr w3) := (((Below.refl (w.heap.size + 2) wr).alloc (by omega) _).grown hgrow (by simp; omega) (fun g e => (HR.out.2.1.lt g e).1))
        have HN : Hid (w3.ownsRow (w.heap.size + 2) 3 1 (.slice (some ⟨g', 0, none⟩) (i + 1) cap') (i + 1) (ints (nz (dgl (i + 1) (x * t))))) := by
          show World.ownsRow _ _ _ _ _ _ _
          rw [dgl_succ, nz_append]
          have e : nz [x * t / Bs ^ i % Bs] = [(s : Int) % 1000000000] := by
            rw [mul_div_mod, ← hsum.out, ← HT.out, limb_int]; rfl
          rw [e, ← ints_snoc]
          exact hown'
        clear hown' hgrow
        go_roundw
        case rel =>
          refine ⟨i + 1, s / 1000000000, _, _, by omega, by omega, rfl, by go_num, by go_num, ?_, HN.out, HPw.out.below KB3.out (Nat.le_refl _), HR.out.2.2.2.trans KB3.out⟩
          rw [HT.out, hsum.out, pow_s, ← Nat.div_div_eq_div_mul]
        case measure => simp [intOf]; omega
      · obtain rfl : i = kx := by omega
        have hxM := HNX.out.mod (Nat.le_refl _)
        have hcM : Hid (c = x * t / Bs ^ i) := by
          show _ = _
          rw [HR.out.1, hxM]
        have hlt2 : x * t < Bs ^ (m + 2) := by
          have h1 := HXM.out
          have h3 : x * t ≤ x * (Bs * Bs) := Nat.mul_le_mul_left _ (Nat.le_trans ht (by decide))
          have h4 : x * (Bs * Bs) < Bs ^ m * (Bs * Bs) := Nat.mul_lt_mul_of_pos_right h1 (by decide)
          rw [show m + 2 = m + 1 + 1 from rfl, pow_s, pow_s, Nat.mul_assoc]; omega
        have HC : Hid (Calls Tryz.prog 106 #[.slice a' i c', .int .i64 (c : Int)] wr fun e w' => ∃ k a1 c1, e = .returned (.slice a1 k c1) ∧ (x * t < Bs ^ k ∧ (k = i ∨ Bs ^ (k - 1) ≤ x * t)) ∧ w'.ownsRow (w.heap.size + 2) 3 1 (.slice a1 k c1) k (ints (nz (dgl k (x * t)))) ∧ Below (w.heap.size + 2) wr w') := by
          have h := carried_any (w.heap.size + 2) i (x * t) (m + 2) a' c' wr HR.out.2.1 hzr (by rw [← hcM.out]; omega) hlt2 (by omega) (by omega)
          rw [← hcM.out] at h
          exact h
        have HPw : Hid (Tb w.heap.size (.slice ax i cx) wr) := hP
        clear hP hxM hlt2
        go_wp2_with fail
        refine HC.out.mono ?_
        rintro e w1 ⟨k, a1, c1, rfl, hk, hrow, hb⟩
        have P1 := HPw.out.below hb (Nat.le_refl _)
        have q1 := P1.z.cell 0
        have q2 := P1.z.frozen 0
        simp at q1
        have HKk : Hid (Nd k (x * t)) := by
          refine ⟨hk.1, ?_⟩
          rcases hk.2 with h | h
          · subst h
            exact HNX.out.mono (Nat.le_mul_of_pos_right _ (by omega))
          · exact .inr h
        have HROW : Hid (w1.ownsRow (w.heap.size + 2) 3 1 (.slice a1 k c1) k (ints (nz (dgl k (x * t))))) := hrow
        have HB : Hid (Below (w.heap.size + 2) W0 w1) := HR.out.2.2.2.trans hb
        have HP1 : Hid (Tb w.heap.size (.slice ax i cx) w1) := P1
        clear hb hrow P1 hk HC
        go_wp2
        have C2 := HP1.out.z.set 0 (.slice a1 k c1)
        have q3 := C2.cell 0
        simp at q3
        refine bodyPost_ret (v := .agg #[.slice a1 k c1]) (by simp [results, Tryz.results108, go_sem, q3]) rfl ⟨_, rfl, ?_, ?_⟩
        · exact ⟨k, HKk.out, IS.ownL (by rw [nz_len, dgl_len]) (ownsRow_setCell_below HROW.out (by show w.heap.size + 1 < _; omega) _)⟩
        · exact (KB0.out.trans (HB.out.mono (by omega))).setCell (by simp) _

end Go.Proofs.YtpgedkdaflgfoafGreatDoor
