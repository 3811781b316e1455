/- The law PartitionRamanujan: the walk, out of what is asked of Count. Written by mkprw.py. -/
import Derived.Test.YtmifenflbaohnaaGreatDoorJnB
import Derived.Test.YtmifenflbaohnaaGreatDoorPtF
import Derived.Test.YtmifenflbaohnaaGreatDoorJnK
import Derived.Test.YtmifenflbaohnaaGreatDoorTxA
import Derived.Test.YtmifenflbaohnaaGreatDoorBigN
import Derived.Test.YtmifenflbaohnaaGreatDoorRegionM
import Derived.Deep.LoopGhost
set_option linter.unusedSimpArgs false
set_option linter.unusedVariables false
set_option maxRecDepth 100000
namespace Go.Proofs.YtmifenflbaohnaaGreatDoor
open Go.RowKit LgM

theorem pt_one : ∀ k m, 1 ≤ PT.pt (k + 1) m
  | 0, 0 => by rw [PT.pt_lt (by omega), PT.pt_null]; decide
  | 0, m + 1 => by rw [PT.pt_ge (by omega), show m + 1 - (0 + 1) = m by omega]; have := pt_one 0 m; omega
  | k + 1, m => by
    rcases Nat.lt_or_ge m (k + 2) with h | h
    · rw [PT.pt_lt h]; exact pt_one k m
    · rw [PT.pt_ge h]; have := pt_one k m; omega
theorem pt_pos (n : Nat) : 1 ≤ PT.pt n n := by
  cases n with
  | zero => rw [PT.pt_null]; decide
  | succ n => exact pt_one n _
theorem pt_pw {n : Nat} (h : n ≤ 2000) : PT.pt n n < pw 6 := Nat.lt_trans (PT.pt_X h h) (by decide +kernel)
/-- The six moduli and rests. -/
def rmA (i : Nat) : Nat := [5, 7, 11, 25, 49, 121].getD i 1
def rmR (i : Nat) : Nat := [4, 5, 6, 24, 47, 116].getD i 1
theorem rm_ok {n p i : Nat} (h : PT.okp n p = true) (hi : i < 6) (e : n % rmA i = rmR i) : p % rmA i = 0 := by
  unfold PT.okp at h
  simp only [Bool.and_eq_true, Bool.or_eq_true, Bool.not_eq_true'] at h
  have key : ∀ a r : Nat, (Nat.beq (n % a) r = false ∨ Nat.beq (p % a) 0 = true) → n % a = r → p % a = 0 := fun a r h e => by
    rcases h with h | h
    · rw [e] at h; simp at h
    · exact Nat.eq_of_beq_eq_true h
  obtain ⟨h1, h2, h3, h4, h5, h6, _⟩ := h
  match i, hi with
  | 0, _ => exact key 5 4 h1 e
  | 1, _ => exact key 7 5 h2 e
  | 2, _ => exact key 11 6 h3 e
  | 3, _ => exact key 25 24 h4 e
  | 4, _ => exact key 49 47 h5 e
  | 5, _ => exact key 121 116 h6 e
theorem rm_bd (i : Nat) (hi : i < 6) : 1 ≤ rmA i ∧ rmA i ≤ 121 ∧ rmR i ≤ 121 := by
  match i, hi with
  | 0, _ => decide
  | 1, _ => decide
  | 2, _ => decide
  | 3, _ => decide
  | 4, _ => decide
  | 5, _ => decide
def rml : List Value := [.int .i64 5, .int .i64 4, .int .i64 7, .int .i64 5, .int .i64 11, .int .i64 6, .int .i64 25, .int .i64 24, .int .i64 49, .int .i64 47, .int .i64 121, .int .i64 116]
theorem rm_at (i : Nat) (hi : i < 6) : rml[i * 2]? = some (.int .i64 (rmA i : Int)) ∧ rml[i * 2 + 1]? = some (.int .i64 (rmR i : Int)) := by
  match i, hi with
  | 0, _ => exact ⟨rfl, rfl⟩
  | 1, _ => exact ⟨rfl, rfl⟩
  | 2, _ => exact ⟨rfl, rfl⟩
  | 3, _ => exact ⟨rfl, rfl⟩
  | 4, _ => exact ⟨rfl, rfl⟩
  | 5, _ => exact ⟨rfl, rfl⟩

set_option maxHeartbeats 4000000 in
theorem ramanujan_bad (n : Int) (w : World) (hn : n < 0 ∨ 2000 < n) (hCt : Calls Tryz.prog 4 #[.int .i64 n] w fun e w' => e = .returned (.tuple #[.string ⟨#[]⟩, .agg #[.int .i64 3, .int .i64 0]]) ∧ Below w.heap.size w w') (hBg : ∀ W, Below w.heap.size w W → Calls Tryz.prog 5 #[] W fun e w' => e = .returned (.bool true) ∧ Below W.heap.size W w') :
    Calls Tryz.prog 3 #[.int .i64 n] w fun e w' => e = .returned (.bool true) ∧ Below w.heap.size w w' := by
  have HCt : Hid (Calls Tryz.prog 4 #[.int .i64 n] w fun e w' => e = .returned (.tuple #[.string ⟨#[]⟩, .agg #[.int .i64 3, .int .i64 0]]) ∧ Below w.heap.size w w') := hCt
  have HBg : Hid (∀ W, Below w.heap.size w W → Calls Tryz.prog 5 #[] W fun e w' => e = .returned (.bool true) ∧ Below W.heap.size W w') := hBg
  clear hCt hBg
  go_enter Tryz.func3, Tryz.ntmps3
  go_wp2_with fail
  refine HCt.out.mono ?_
  rintro e w1 ⟨rfl, k1⟩
  go_wp2_with fail
  have kb := below_one w1 (.cells #[.int .i64 3, .int .i64 0] 23)
  have K2 := k1.trans (kb.mono k1.size)
  have C2 := Sv.fresh 3 0 (w := w1) rfl
  refine (HBg.out _ K2).mono ?_
  rintro e w3 ⟨rfl, k3⟩
  have HK3 : Hid (Below w.heap.size w w3) := K2.trans (k3.mono K2.size)
  obtain ⟨u0, u1, u2, u3, u4⟩ := C2.below k3
  clear k1 kb K2 C2 k3
  by_cases h0 : n < 0
  · have t0 : decide (n < 0) = true := decide_eq_true h0
    go_wp2
    go_ret
    exact ⟨rfl, HK3.out⟩
  · have t0 : decide (n < 0) = false := decide_eq_false h0
    have t1 : decide (2000 < n) = true := decide_eq_true (by omega)
    go_wp2
    go_ret
    exact ⟨rfl, HK3.out⟩

set_option maxRecDepth 100000 in
set_option maxHeartbeats 4000000 in
theorem ramanujan_ok (nM : Nat) (w : World) (hn : nM ≤ 2000) (hCt : Calls Tryz.prog 4 #[.int .i64 (nM : Int)] w fun e w' => e = .returned (.tuple #[.string ⟨(Lib.decDigits (PT.pt nM nM)).toArray⟩, .agg #[.int .i64 0, .int .i64 0]]) ∧ Below w.heap.size w w') (hBg : ∀ W, Below w.heap.size w W → Calls Tryz.prog 5 #[] W fun e w' => e = .returned (.bool true) ∧ Below W.heap.size W w') :
    Calls Tryz.prog 3 #[.int .i64 (nM : Int)] w fun e w' => e = .returned (.bool true) ∧ Below w.heap.size w w' := by
  obtain ⟨p, hp⟩ : ∃ p, PT.pt nM nM = p := ⟨_, rfl⟩
  have hok := PT.pt_ok hn
  have hpp := pt_pos nM
  have hpb := pt_pw hn
  rw [hp] at hok hpp hpb hCt
  obtain ⟨st, hst⟩ : ∃ st : ByteArray, st = ⟨(Lib.decDigits p).toArray⟩ := ⟨_, rfl⟩
  have HDg : Hid (∀ w, Calls Tryz.prog 6 #[.string st] w fun e w' => ∃ b, e = .returned (.tuple #[.pointer (some ⟨b, 0, none⟩), .bool true]) ∧ w.heap.size ≤ b ∧ BigAt w' b (p : Int) ∧ Below w.heap.size w w') := fun w => by
    rw [hst]
    obtain ⟨c, r, h1, h2⟩ := dec_head p hpp
    refine Digits_dec (Lib.decDigits p) p w (dec_digit p) ?_ (dec_pos p) (Nat.le_trans (dec_pw hpb (by decide)) (by decide)) (rd_dec p)
    rw [h1]; exact h2
  rw [← hst] at hCt
  have HCt : Hid (Calls Tryz.prog 4 #[.int .i64 (nM : Int)] w fun e w' => e = .returned (.tuple #[.string st, .agg #[.int .i64 0, .int .i64 0]]) ∧ Below w.heap.size w w') := hCt
  have HBg : Hid (∀ W, Below w.heap.size w W → Calls Tryz.prog 5 #[] W fun e w' => e = .returned (.bool true) ∧ Below W.heap.size W w') := hBg
  have HOk : Hid (PT.okp nM p = true ∧ (p : Int).natAbs < pw 6) := ⟨hok, by simpa using hpb⟩
  clear hCt hBg hok hp hpp hpb hst
  go_enter Tryz.func3, Tryz.ntmps3
  go_wp2_with fail
  refine HCt.out.mono ?_
  rintro e w1 ⟨rfl, k1⟩
  go_wp2_with fail
  have kb := below_one w1 (.cells #[.int .i64 0, .int .i64 0] 23)
  have K2 := k1.trans (kb.mono k1.size)
  have C2 := Sv.fresh 0 0 (w := w1) rfl
  refine (HBg.out _ K2).mono ?_
  rintro e w3 ⟨rfl, k3⟩
  have HK3 : Hid (Below w.heap.size w w3) := K2.trans (k3.mono K2.size)
  obtain ⟨u0, u1, u2, u3, u4⟩ := C2.below k3
  obtain ⟨bf, hbf⟩ : ∃ b, w1.heap.size = b := ⟨_, rfl⟩
  rw [hbf] at u0 u1 u2 u3 u4
  rw [hbf]
  clear k1 kb K2 C2 k3 hbf HCt HBg
  go_wp2_with fail
  refine (HDg.out _).mono ?_
  rintro e w4 ⟨bk, rfl, _, hk, k4⟩
  have HK4 : Hid (Below w.heap.size w w4 ∧ BigAt w4 bk (p : Int)) := ⟨HK3.out.trans (k4.mono HK3.out.size), hk⟩
  clear k4 hk HK3 u0 u1 u2 u3 u4 HDg
  go_wp2
  obtain ⟨bl, hbl⟩ : ∃ b, w4.heap.size = b := ⟨_, rfl⟩
  obtain ⟨W5, hW5⟩ : ∃ W, w4.alloc (.cells rml.toArray 30) = W := ⟨_, rfl⟩
  have K5 : Hid (Below w.heap.size w W5 ∧ BigAt W5 bk (p : Int) ∧ Cl bl rml 30 W5) := by
    show _ ∧ _
    have kb := below_one w4 (.cells rml.toArray 30)
    rw [← hW5]
    exact ⟨HK4.out.1.trans (kb.mono HK4.out.1.size), HK4.out.2.below kb (Nat.le_refl _), by rw [← hbl]; exact Cl.new rml _ w4⟩
  have e5 : (rml.toArray : Array Value) = #[.int .i64 5, .int .i64 4, .int .i64 7, .int .i64 5, .int .i64 11, .int .i64 6, .int .i64 25, .int .i64 24, .int .i64 49, .int .i64 47, .int .i64 121, .int .i64 116] := rfl
  rw [e5] at hW5
  rw [hW5, hbl]
  clear hW5 hbl e5 HK4
  go_loopg [8] 6 (fun gk iv wx => ∃ i : Nat, iv = .int .i64 (i : Int) ∧ Hid (gk = 6 - i ∧ i ≤ 6 ∧ Below w.heap.size w wx ∧ BigAt wx bk (p : Int) ∧ Cl bl rml 30 wx))
  case atStart => exact ⟨0, rfl, rfl, by omega, K5.out⟩
  case round =>
    clear K5
    obtain ⟨i, rfl, HR⟩ := hrel
    obtain ⟨h1, h2, h3, h4, h5⟩ := HR.out
    have HKi : Hid (gk = 6 - i) := h1
    have HG : Hid (Below w.heap.size w wr ∧ BigAt wr bk (p : Int) ∧ Cl bl rml 30 wr) := ⟨h3, h4, h5⟩
    clear HR h1 h3 h4 h5
    by_cases hi : i < 6
    · have ti : decide ((i : Int) < 6) = true := decide_eq_true (by omega)
      obtain ⟨b1, b2, b3⟩ := rm_bd i hi
      obtain ⟨q1, q2⟩ := rm_at i hi
      have hrm : nM % rmA i = rmR i → p % rmA i = 0 := fun e => rm_ok HOk.out.1 hi e
      obtain ⟨ma, hma⟩ : ∃ x, rmA i = x := ⟨_, rfl⟩
      obtain ⟨mr, hmr⟩ : ∃ x, rmR i = x := ⟨_, rfl⟩
      rw [hma] at b1 b2 q1 hrm
      rw [hmr] at b3 q2 hrm
      have HRm : Hid (nM % ma = mr → p % ma = 0) := hrm
      have HQ : Hid (rml[i * 2]? = some (.int .i64 (ma : Int)) ∧ rml[i * 2 + 1]? = some (.int .i64 (mr : Int))) := ⟨q1, q2⟩
      have c0 : wr.cell? ⟨bl, i * 2, none⟩ = some (.int .i64 (ma : Int)) := (HG.out.2.2.cell _).trans q1
      have c1 : wr.cell? ⟨bl, i * 2 + 1, none⟩ = some (.int .i64 (mr : Int)) := (HG.out.2.2.cell _).trans q2
      have hi6 : (i : Int) < 6 := by omega
      have hz : ((ma : Int) == 0) = false := beq_eq_false_iff_ne.2 (by omega)
      obtain ⟨tm, htm0⟩ : ∃ t : Nat, t = nM % ma := ⟨_, rfl⟩
      have htm : (nM : Int).tmod (ma : Int) = (tm : Int) := by rw [Int.tmod_eq_emod_of_nonneg (by omega), htm0, Int.natCast_emod]
      have HTm : Hid (tm = nM % ma) := htm0
      have hzn : ¬ ma = 0 := by omega
      clear hma hmr hrm q1 q2 htm0
      go_wp2_with fail
      have HS : Hid (∀ W', Below wr.heap.size wr W' → W'.cell? ⟨bl, i * 2, none⟩ = some (.int .i64 (ma : Int)) ∧ W'.cell? ⟨bl, i * 2 + 1, none⟩ = some (.int .i64 (mr : Int))) := fun W' kb => ⟨((HG.out.2.2.below kb).cell _).trans HQ.out.1, ((HG.out.2.2.below kb).cell _).trans HQ.out.2⟩
      by_cases he : tm = mr
      · have te : ((tm : Int) == (mr : Int)) = true := beq_iff_eq.2 (by omega)
        have hsg : ((p : Int) % (ma : Int)).sign = 0 := by rw [← Int.natCast_emod, HRm.out (by rw [← HTm.out]; exact he)]; rfl
        have HMa : Hid (((ma : Int)).natAbs < pw 2 ∧ (ma : Int) ≠ 0) := by
          refine ⟨?_, by omega⟩
          rw [Int.natAbs_natCast, pw_two]; omega
        have HMb : Hid (-9223372036854775808 ≤ (ma : Int) ∧ (ma : Int) ≤ 9223372036854775807) := ⟨by omega, by omega⟩
        clear he
        refine wp_region_G (fun W' => W'.cell? ⟨bl, i * 2, none⟩ = some (.int .i64 (ma : Int)) ∧ W'.cell? ⟨bl, i * 2 + 1, none⟩ = some (.int .i64 (mr : Int))) 25 (by kernel_rfl) (HS.out _ (Below.refl _ _).drew) (fun hHeld => ?_)
        clear c0 c1
        refine wpAnyG_take (i := 0) (v := ?v0x1) rfl (by kernel_rfl) (fun _ _ _ h => h) (Or.inl ⟨by rfl, ?y0x1⟩) hHeld ?r0x1
        case y0x1 => (intro wS hSw; obtain ⟨s1, s2⟩ := hSw; go_simp; try with_reducible rfl)
        simp only [Act.put, List.getElem_toArray, List.getElem_cons_zero, List.getElem_cons_succ, List.setIfInBounds_toArray, List.set_cons_zero, List.set_cons_succ]
        refine wpAnyG_take (i := 1) (v := ?v1x2) rfl (by kernel_rfl) (fun _ _ _ h => h) (Or.inl ⟨by rfl, ?y1x2⟩) hHeld ?r1x2
        case y1x2 => (intro wS hSw; obtain ⟨s1, s2⟩ := hSw; go_simp; try with_reducible rfl)
        simp only [Act.put, List.getElem_toArray, List.getElem_cons_zero, List.getElem_cons_succ, List.setIfInBounds_toArray, List.set_cons_zero, List.set_cons_succ]
        refine wpAnyG_take (i := 2) (v := ?v2x3) rfl (by kernel_rfl) (fun _ _ _ h => h) (Or.inl ⟨by rfl, ?y2x3⟩) hHeld ?r2x3
        case y2x3 => (intro wS hSw; obtain ⟨s1, s2⟩ := hSw; go_simp; try with_reducible rfl)
        simp only [Act.put, List.getElem_toArray, List.getElem_cons_zero, List.getElem_cons_succ, List.setIfInBounds_toArray, List.set_cons_zero, List.set_cons_succ]
        refine wpAnyG_take (i := 3) (v := ?v3x4) rfl (by kernel_rfl) (fun _ _ _ h => h) (Or.inl ⟨by rfl, ?y3x4⟩) hHeld ?r3x4
        case y3x4 => (intro wS hSw; obtain ⟨s1, s2⟩ := hSw; go_simp; try with_reducible rfl)
        simp only [Act.put, List.getElem_toArray, List.getElem_cons_zero, List.getElem_cons_succ, List.setIfInBounds_toArray, List.set_cons_zero, List.set_cons_succ]
        refine wpAnyG_take (i := 4) (v := ?v4x5) rfl (by kernel_rfl) (fun _ _ _ h => h) (Or.inl ⟨by rfl, ?y4x5⟩) hHeld ?r4x5
        case y4x5 => (intro wS hSw; obtain ⟨s1, s2⟩ := hSw; go_simp; try with_reducible rfl)
        simp only [Act.put, List.getElem_toArray, List.getElem_cons_zero, List.getElem_cons_succ, List.setIfInBounds_toArray, List.set_cons_zero, List.set_cons_succ]
        refine wpAnyG_take (i := 5) (v := ?v5x6) rfl (by kernel_rfl) (fun _ _ _ h => h) (Or.inl ⟨by rfl, ?y5x6⟩) hHeld ?r5x6
        case y5x6 => (intro wS hSw; obtain ⟨s1, s2⟩ := hSw; go_simp; try with_reducible rfl)
        simp only [Act.put, List.getElem_toArray, List.getElem_cons_zero, List.getElem_cons_succ, List.setIfInBounds_toArray, List.set_cons_zero, List.set_cons_succ]
        refine wpAnyG_take (i := 6) (v := .int .i64 (tm : Int)) rfl (by kernel_rfl) (fun _ _ _ h => h) (Or.inl ⟨by kernel_rfl, ?y6x7⟩) hHeld ?r6x7
        case y6x7 => (intro wS hSw; (go_simp; try simp only [htm, if_neg hzn]))
        simp only [Act.put, List.getElem_toArray, List.getElem_cons_zero, List.getElem_cons_succ, List.setIfInBounds_toArray, List.set_cons_zero, List.set_cons_succ]
        refine wpAnyG_take (i := 7) (v := ?v7x8) rfl (by kernel_rfl) (fun _ _ _ h => h) (Or.inl ⟨by rfl, ?y7x8⟩) hHeld ?r7x8
        case y7x8 => (intro wS hSw; obtain ⟨s1, s2⟩ := hSw; go_simp; try with_reducible rfl)
        simp only [Act.put, List.getElem_toArray, List.getElem_cons_zero, List.getElem_cons_succ, List.setIfInBounds_toArray, List.set_cons_zero, List.set_cons_succ]
        refine wpAnyG_take (i := 8) (v := ?v8x9) rfl (by kernel_rfl) (fun _ _ _ h => h) (Or.inl ⟨by rfl, ?y8x9⟩) hHeld ?r8x9
        case y8x9 => (intro wS hSw; obtain ⟨s1, s2⟩ := hSw; go_simp; try with_reducible rfl)
        simp only [Act.put, List.getElem_toArray, List.getElem_cons_zero, List.getElem_cons_succ, List.setIfInBounds_toArray, List.set_cons_zero, List.set_cons_succ]
        refine wpAnyG_take (i := 9) (v := ?v9x10) rfl (by kernel_rfl) (fun _ _ _ h => h) (Or.inl ⟨by rfl, ?y9x10⟩) hHeld ?r9x10
        case y9x10 => (intro wS hSw; obtain ⟨s1, s2⟩ := hSw; go_simp; try with_reducible rfl)
        simp only [Act.put, List.getElem_toArray, List.getElem_cons_zero, List.getElem_cons_succ, List.setIfInBounds_toArray, List.set_cons_zero, List.set_cons_succ]
        refine wpAnyG_take (i := 10) (v := ?v10x11) rfl (by kernel_rfl) (fun _ _ _ h => h) (Or.inl ⟨by rfl, ?y10x11⟩) hHeld ?r10x11
        case y10x11 => (intro wS hSw; obtain ⟨s1, s2⟩ := hSw; go_simp; try with_reducible rfl)
        simp only [Act.put, List.getElem_toArray, List.getElem_cons_zero, List.getElem_cons_succ, List.setIfInBounds_toArray, List.set_cons_zero, List.set_cons_succ]
        refine wpAnyG_take (i := 11) (v := ?v11x12) rfl (by kernel_rfl) (fun _ _ _ h => h) (Or.inl ⟨by rfl, ?y11x12⟩) hHeld ?r11x12
        case y11x12 => (intro wS hSw; obtain ⟨s1, s2⟩ := hSw; go_simp; try with_reducible rfl)
        simp only [Act.put, List.getElem_toArray, List.getElem_cons_zero, List.getElem_cons_succ, List.setIfInBounds_toArray, List.set_cons_zero, List.set_cons_succ]
        refine wpAnyG_take (i := 12) (v := .bool true) rfl (by kernel_rfl) (fun _ _ _ h => h) (Or.inl ⟨by kernel_rfl, ?y12x13⟩) hHeld ?r12x13
        case y12x13 => (intro wS hSw; obtain ⟨s1, s2⟩ := hSw; go_simp; try simp only [te])
        simp only [Act.put, List.getElem_toArray, List.getElem_cons_zero, List.getElem_cons_succ, List.setIfInBounds_toArray, List.set_cons_zero, List.set_cons_succ]
        refine wpAnyG_take (i := 13) (v := .bool true) rfl (by kernel_rfl) (fun _ _ _ h => h) (Or.inl ⟨by kernel_rfl, ?y13x14⟩) hHeld ?r13x14
        case y13x14 => (intro wS hSw; (go_simp))
        simp only [Act.put, List.getElem_toArray, List.getElem_cons_zero, List.getElem_cons_succ, List.setIfInBounds_toArray, List.set_cons_zero, List.set_cons_succ]
        refine wpAnyG_take (i := 15) (v := .pointer (some ⟨bk, 0, none⟩)) rfl (by kernel_rfl) (fun _ _ _ h => h) (Or.inl ⟨by kernel_rfl, ?y15x15⟩) hHeld ?r15x15
        case y15x15 => (intro wS hSw; (go_simp))
        simp only [Act.put, List.getElem_toArray, List.getElem_cons_zero, List.getElem_cons_succ, List.setIfInBounds_toArray, List.set_cons_zero, List.set_cons_succ]
        refine wpAnyG_take (i := 16) (v := .slice (some ⟨bl, 0, none⟩) 6 6) rfl (by kernel_rfl) (fun _ _ _ h => h) (Or.inl ⟨by kernel_rfl, ?y16x16⟩) hHeld ?r16x16
        case y16x16 => (intro wS hSw; (go_simp))
        simp only [Act.put, List.getElem_toArray, List.getElem_cons_zero, List.getElem_cons_succ, List.setIfInBounds_toArray, List.set_cons_zero, List.set_cons_succ]
        refine wpAnyG_take (i := 17) (v := .int .i64 (i : Int)) rfl (by kernel_rfl) (fun _ _ _ h => h) (Or.inl ⟨by kernel_rfl, ?y17x17⟩) hHeld ?r17x17
        case y17x17 => (intro wS hSw; (go_simp))
        simp only [Act.put, List.getElem_toArray, List.getElem_cons_zero, List.getElem_cons_succ, List.setIfInBounds_toArray, List.set_cons_zero, List.set_cons_succ]
        refine wpAnyG_take (i := 18) (v := .pointer (some ⟨bl, i * 2, none⟩)) rfl (by kernel_rfl) (fun _ _ _ h => h) (Or.inl ⟨by kernel_rfl, ?y18x18⟩) hHeld ?r18x18
        case y18x18 => (intro wS hSw; (go_simp; try simp only [hi6, if_true]))
        simp only [Act.put, List.getElem_toArray, List.getElem_cons_zero, List.getElem_cons_succ, List.setIfInBounds_toArray, List.set_cons_zero, List.set_cons_succ]
        refine wpAnyG_take (i := 19) (v := .pointer (some ⟨bl, i * 2, none⟩)) rfl (by kernel_rfl) (fun _ _ _ h => h) (Or.inl ⟨by kernel_rfl, ?y19x19⟩) hHeld ?r19x19
        case y19x19 => (intro wS hSw; (go_simp))
        simp only [Act.put, List.getElem_toArray, List.getElem_cons_zero, List.getElem_cons_succ, List.setIfInBounds_toArray, List.set_cons_zero, List.set_cons_succ]
        refine wpAnyG_take (i := 20) (v := .int .i64 (ma : Int)) rfl (by kernel_rfl) (fun _ _ _ h => h) (Or.inl ⟨by kernel_rfl, ?y20x20⟩) hHeld ?r20x20
        case y20x20 => (intro wS hSw; obtain ⟨s1, s2⟩ := hSw; go_simp)
        simp only [Act.put, List.getElem_toArray, List.getElem_cons_zero, List.getElem_cons_succ, List.setIfInBounds_toArray, List.set_cons_zero, List.set_cons_succ]
        clear hHeld
        refine wpAnyG_inv (fun n l a w1 => (n = 6 ∧ l = #[true, true, true, true, true, true, true, true, true, true, true, true, true, true, false, true, true, true, true, true, true, false, false, false, false, false] ∧ a = { tmps := ((Value.int IntKind.i64 ↑nM) :: (undef) :: (u2) :: (Value.string st) :: (Value.pointer (some { block := bf, off := 0 })) :: (Value.pointer (some { block := bk, off := 0 })) :: (Value.bool true) :: (Value.slice (some { block := bl, off := 0 }) 6 6) :: (Value.int IntKind.i64 ↑i) :: (Value.tuple #[Value.string st, Value.agg #[Value.int IntKind.i64 0, Value.int IntKind.i64 0]]) :: (Value.int IntKind.i64 ↑nM) :: (Value.tuple #[Value.string st, Value.agg #[Value.int IntKind.i64 0, Value.int IntKind.i64 0]]) :: (Value.string st) :: (Value.agg #[Value.int IntKind.i64 0, Value.int IntKind.i64 0]) :: (Value.bool true) :: (Value.bool false) :: (Value.pointer (some { block := bf, off := 0 })) :: (Value.int IntKind.i64 0) :: (Value.bool false) :: (undef) :: (undef) :: (undef) :: (undef) :: (undef) :: (undef) :: (Value.tuple #[Value.pointer (some { block := bk, off := 0 }), Value.bool true]) :: (Value.string st) :: (Value.tuple #[Value.pointer (some { block := bk, off := 0 }), Value.bool true]) :: (Value.pointer (some { block := bk, off := 0 })) :: (Value.bool true) :: (Value.bool true) :: (Value.bool false) :: (Value.agg #[Value.int IntKind.i64 5, Value.int IntKind.i64 4]) :: (Value.agg #[Value.int IntKind.i64 7, Value.int IntKind.i64 5]) :: (Value.agg #[Value.int IntKind.i64 11, Value.int IntKind.i64 6]) :: (Value.agg #[Value.int IntKind.i64 25, Value.int IntKind.i64 24]) :: (Value.agg #[Value.int IntKind.i64 49, Value.int IntKind.i64 47]) :: (Value.agg #[Value.int IntKind.i64 121, Value.int IntKind.i64 116]) :: (Value.slice (some { block := bl, off := 0 }) 6 6) :: (Value.int IntKind.i64 ↑i) :: (Value.slice (some { block := bl, off := 0 }) 6 6) :: (Value.int IntKind.i64 6) :: (Value.bool true) :: (u43) :: (u44) :: (.int .i64 (nM : Int)) :: (.slice (some ⟨bl, 0, none⟩) 6 6) :: (.int .i64 (i : Int)) :: (.pointer (some ⟨bl, i * 2, none⟩)) :: (.pointer (some ⟨bl, i * 2, none⟩)) :: (.int .i64 (ma : Int)) :: (.int .i64 (tm : Int)) :: (.slice (some ⟨bl, 0, none⟩) 6 6) :: (.int .i64 (i : Int)) :: (.pointer (some ⟨bl, i * 2, none⟩)) :: (.pointer (some ⟨bl, i * 2 + 1, none⟩)) :: (.int .i64 (mr : Int)) :: (.bool true) :: (.bool true) :: (u59) :: (.pointer (some ⟨bk, 0, none⟩)) :: (.slice (some ⟨bl, 0, none⟩) 6 6) :: (.int .i64 (i : Int)) :: (.pointer (some ⟨bl, i * 2, none⟩)) :: (.pointer (some ⟨bl, i * 2, none⟩)) :: (.int .i64 (ma : Int)) :: (u66) :: (u67) :: (u68) :: (u69) :: (u70) :: []).toArray, defers := [] } ∧ Hid (Below wr.heap.size wr w1)) ∨ (∃ b0 : Nat, n = 5 ∧ l = #[true, true, true, true, true, true, true, true, true, true, true, true, true, true, true, true, true, true, true, true, true, false, false, false, false, false] ∧ a = { tmps := ((Value.int IntKind.i64 ↑nM) :: (undef) :: (u2) :: (Value.string st) :: (Value.pointer (some { block := bf, off := 0 })) :: (Value.pointer (some { block := bk, off := 0 })) :: (Value.bool true) :: (Value.slice (some { block := bl, off := 0 }) 6 6) :: (Value.int IntKind.i64 ↑i) :: (Value.tuple #[Value.string st, Value.agg #[Value.int IntKind.i64 0, Value.int IntKind.i64 0]]) :: (Value.int IntKind.i64 ↑nM) :: (Value.tuple #[Value.string st, Value.agg #[Value.int IntKind.i64 0, Value.int IntKind.i64 0]]) :: (Value.string st) :: (Value.agg #[Value.int IntKind.i64 0, Value.int IntKind.i64 0]) :: (Value.bool true) :: (Value.bool false) :: (Value.pointer (some { block := bf, off := 0 })) :: (Value.int IntKind.i64 0) :: (Value.bool false) :: (undef) :: (undef) :: (undef) :: (undef) :: (undef) :: (undef) :: (Value.tuple #[Value.pointer (some { block := bk, off := 0 }), Value.bool true]) :: (Value.string st) :: (Value.tuple #[Value.pointer (some { block := bk, off := 0 }), Value.bool true]) :: (Value.pointer (some { block := bk, off := 0 })) :: (Value.bool true) :: (Value.bool true) :: (Value.bool false) :: (Value.agg #[Value.int IntKind.i64 5, Value.int IntKind.i64 4]) :: (Value.agg #[Value.int IntKind.i64 7, Value.int IntKind.i64 5]) :: (Value.agg #[Value.int IntKind.i64 11, Value.int IntKind.i64 6]) :: (Value.agg #[Value.int IntKind.i64 25, Value.int IntKind.i64 24]) :: (Value.agg #[Value.int IntKind.i64 49, Value.int IntKind.i64 47]) :: (Value.agg #[Value.int IntKind.i64 121, Value.int IntKind.i64 116]) :: (Value.slice (some { block := bl, off := 0 }) 6 6) :: (Value.int IntKind.i64 ↑i) :: (Value.slice (some { block := bl, off := 0 }) 6 6) :: (Value.int IntKind.i64 6) :: (Value.bool true) :: (u43) :: (u44) :: (.int .i64 (nM : Int)) :: (.slice (some ⟨bl, 0, none⟩) 6 6) :: (.int .i64 (i : Int)) :: (.pointer (some ⟨bl, i * 2, none⟩)) :: (.pointer (some ⟨bl, i * 2, none⟩)) :: (.int .i64 (ma : Int)) :: (.int .i64 (tm : Int)) :: (.slice (some ⟨bl, 0, none⟩) 6 6) :: (.int .i64 (i : Int)) :: (.pointer (some ⟨bl, i * 2, none⟩)) :: (.pointer (some ⟨bl, i * 2 + 1, none⟩)) :: (.int .i64 (mr : Int)) :: (.bool true) :: (.bool true) :: (.pointer (some ⟨b0, 0, none⟩)) :: (.pointer (some ⟨bk, 0, none⟩)) :: (.slice (some ⟨bl, 0, none⟩) 6 6) :: (.int .i64 (i : Int)) :: (.pointer (some ⟨bl, i * 2, none⟩)) :: (.pointer (some ⟨bl, i * 2, none⟩)) :: (.int .i64 (ma : Int)) :: (u66) :: (u67) :: (u68) :: (u69) :: (u70) :: []).toArray, defers := [] } ∧ Hid (Below wr.heap.size wr w1 ∧ wr.heap.size ≤ b0 ∧ Slot w1 b0)) ∨ (∃ n0 : Nat, n = 5 ∧ l = #[true, true, true, true, true, true, true, true, true, true, true, true, true, true, false, true, true, true, true, true, true, true, false, false, false, false] ∧ a = { tmps := ((Value.int IntKind.i64 ↑nM) :: (undef) :: (u2) :: (Value.string st) :: (Value.pointer (some { block := bf, off := 0 })) :: (Value.pointer (some { block := bk, off := 0 })) :: (Value.bool true) :: (Value.slice (some { block := bl, off := 0 }) 6 6) :: (Value.int IntKind.i64 ↑i) :: (Value.tuple #[Value.string st, Value.agg #[Value.int IntKind.i64 0, Value.int IntKind.i64 0]]) :: (Value.int IntKind.i64 ↑nM) :: (Value.tuple #[Value.string st, Value.agg #[Value.int IntKind.i64 0, Value.int IntKind.i64 0]]) :: (Value.string st) :: (Value.agg #[Value.int IntKind.i64 0, Value.int IntKind.i64 0]) :: (Value.bool true) :: (Value.bool false) :: (Value.pointer (some { block := bf, off := 0 })) :: (Value.int IntKind.i64 0) :: (Value.bool false) :: (undef) :: (undef) :: (undef) :: (undef) :: (undef) :: (undef) :: (Value.tuple #[Value.pointer (some { block := bk, off := 0 }), Value.bool true]) :: (Value.string st) :: (Value.tuple #[Value.pointer (some { block := bk, off := 0 }), Value.bool true]) :: (Value.pointer (some { block := bk, off := 0 })) :: (Value.bool true) :: (Value.bool true) :: (Value.bool false) :: (Value.agg #[Value.int IntKind.i64 5, Value.int IntKind.i64 4]) :: (Value.agg #[Value.int IntKind.i64 7, Value.int IntKind.i64 5]) :: (Value.agg #[Value.int IntKind.i64 11, Value.int IntKind.i64 6]) :: (Value.agg #[Value.int IntKind.i64 25, Value.int IntKind.i64 24]) :: (Value.agg #[Value.int IntKind.i64 49, Value.int IntKind.i64 47]) :: (Value.agg #[Value.int IntKind.i64 121, Value.int IntKind.i64 116]) :: (Value.slice (some { block := bl, off := 0 }) 6 6) :: (Value.int IntKind.i64 ↑i) :: (Value.slice (some { block := bl, off := 0 }) 6 6) :: (Value.int IntKind.i64 6) :: (Value.bool true) :: (u43) :: (u44) :: (.int .i64 (nM : Int)) :: (.slice (some ⟨bl, 0, none⟩) 6 6) :: (.int .i64 (i : Int)) :: (.pointer (some ⟨bl, i * 2, none⟩)) :: (.pointer (some ⟨bl, i * 2, none⟩)) :: (.int .i64 (ma : Int)) :: (.int .i64 (tm : Int)) :: (.slice (some ⟨bl, 0, none⟩) 6 6) :: (.int .i64 (i : Int)) :: (.pointer (some ⟨bl, i * 2, none⟩)) :: (.pointer (some ⟨bl, i * 2 + 1, none⟩)) :: (.int .i64 (mr : Int)) :: (.bool true) :: (.bool true) :: (u59) :: (.pointer (some ⟨bk, 0, none⟩)) :: (.slice (some ⟨bl, 0, none⟩) 6 6) :: (.int .i64 (i : Int)) :: (.pointer (some ⟨bl, i * 2, none⟩)) :: (.pointer (some ⟨bl, i * 2, none⟩)) :: (.int .i64 (ma : Int)) :: (.pointer (some ⟨n0, 0, none⟩)) :: (u67) :: (u68) :: (u69) :: (u70) :: []).toArray, defers := [] } ∧ Hid (Below wr.heap.size wr w1 ∧ wr.heap.size ≤ n0 ∧ BigAt w1 n0 (ma : Int))) ∨ (∃ b0 n0 : Nat, n = 4 ∧ l = #[true, true, true, true, true, true, true, true, true, true, true, true, true, true, true, true, true, true, true, true, true, true, false, false, false, false] ∧ a = { tmps := ((Value.int IntKind.i64 ↑nM) :: (undef) :: (u2) :: (Value.string st) :: (Value.pointer (some { block := bf, off := 0 })) :: (Value.pointer (some { block := bk, off := 0 })) :: (Value.bool true) :: (Value.slice (some { block := bl, off := 0 }) 6 6) :: (Value.int IntKind.i64 ↑i) :: (Value.tuple #[Value.string st, Value.agg #[Value.int IntKind.i64 0, Value.int IntKind.i64 0]]) :: (Value.int IntKind.i64 ↑nM) :: (Value.tuple #[Value.string st, Value.agg #[Value.int IntKind.i64 0, Value.int IntKind.i64 0]]) :: (Value.string st) :: (Value.agg #[Value.int IntKind.i64 0, Value.int IntKind.i64 0]) :: (Value.bool true) :: (Value.bool false) :: (Value.pointer (some { block := bf, off := 0 })) :: (Value.int IntKind.i64 0) :: (Value.bool false) :: (undef) :: (undef) :: (undef) :: (undef) :: (undef) :: (undef) :: (Value.tuple #[Value.pointer (some { block := bk, off := 0 }), Value.bool true]) :: (Value.string st) :: (Value.tuple #[Value.pointer (some { block := bk, off := 0 }), Value.bool true]) :: (Value.pointer (some { block := bk, off := 0 })) :: (Value.bool true) :: (Value.bool true) :: (Value.bool false) :: (Value.agg #[Value.int IntKind.i64 5, Value.int IntKind.i64 4]) :: (Value.agg #[Value.int IntKind.i64 7, Value.int IntKind.i64 5]) :: (Value.agg #[Value.int IntKind.i64 11, Value.int IntKind.i64 6]) :: (Value.agg #[Value.int IntKind.i64 25, Value.int IntKind.i64 24]) :: (Value.agg #[Value.int IntKind.i64 49, Value.int IntKind.i64 47]) :: (Value.agg #[Value.int IntKind.i64 121, Value.int IntKind.i64 116]) :: (Value.slice (some { block := bl, off := 0 }) 6 6) :: (Value.int IntKind.i64 ↑i) :: (Value.slice (some { block := bl, off := 0 }) 6 6) :: (Value.int IntKind.i64 6) :: (Value.bool true) :: (u43) :: (u44) :: (.int .i64 (nM : Int)) :: (.slice (some ⟨bl, 0, none⟩) 6 6) :: (.int .i64 (i : Int)) :: (.pointer (some ⟨bl, i * 2, none⟩)) :: (.pointer (some ⟨bl, i * 2, none⟩)) :: (.int .i64 (ma : Int)) :: (.int .i64 (tm : Int)) :: (.slice (some ⟨bl, 0, none⟩) 6 6) :: (.int .i64 (i : Int)) :: (.pointer (some ⟨bl, i * 2, none⟩)) :: (.pointer (some ⟨bl, i * 2 + 1, none⟩)) :: (.int .i64 (mr : Int)) :: (.bool true) :: (.bool true) :: (.pointer (some ⟨b0, 0, none⟩)) :: (.pointer (some ⟨bk, 0, none⟩)) :: (.slice (some ⟨bl, 0, none⟩) 6 6) :: (.int .i64 (i : Int)) :: (.pointer (some ⟨bl, i * 2, none⟩)) :: (.pointer (some ⟨bl, i * 2, none⟩)) :: (.int .i64 (ma : Int)) :: (.pointer (some ⟨n0, 0, none⟩)) :: (u67) :: (u68) :: (u69) :: (u70) :: []).toArray, defers := [] } ∧ Hid (Below wr.heap.size wr w1 ∧ wr.heap.size ≤ b0 ∧ Slot w1 b0 ∧ wr.heap.size ≤ n0 ∧ BigAt w1 n0 (ma : Int) ∧ b0 ≠ n0)) ∨ (∃ b0 n0 : Nat, n = 3 ∧ l = #[true, true, true, true, true, true, true, true, true, true, true, true, true, true, true, true, true, true, true, true, true, true, true, false, false, false] ∧ a = { tmps := ((Value.int IntKind.i64 ↑nM) :: (undef) :: (u2) :: (Value.string st) :: (Value.pointer (some { block := bf, off := 0 })) :: (Value.pointer (some { block := bk, off := 0 })) :: (Value.bool true) :: (Value.slice (some { block := bl, off := 0 }) 6 6) :: (Value.int IntKind.i64 ↑i) :: (Value.tuple #[Value.string st, Value.agg #[Value.int IntKind.i64 0, Value.int IntKind.i64 0]]) :: (Value.int IntKind.i64 ↑nM) :: (Value.tuple #[Value.string st, Value.agg #[Value.int IntKind.i64 0, Value.int IntKind.i64 0]]) :: (Value.string st) :: (Value.agg #[Value.int IntKind.i64 0, Value.int IntKind.i64 0]) :: (Value.bool true) :: (Value.bool false) :: (Value.pointer (some { block := bf, off := 0 })) :: (Value.int IntKind.i64 0) :: (Value.bool false) :: (undef) :: (undef) :: (undef) :: (undef) :: (undef) :: (undef) :: (Value.tuple #[Value.pointer (some { block := bk, off := 0 }), Value.bool true]) :: (Value.string st) :: (Value.tuple #[Value.pointer (some { block := bk, off := 0 }), Value.bool true]) :: (Value.pointer (some { block := bk, off := 0 })) :: (Value.bool true) :: (Value.bool true) :: (Value.bool false) :: (Value.agg #[Value.int IntKind.i64 5, Value.int IntKind.i64 4]) :: (Value.agg #[Value.int IntKind.i64 7, Value.int IntKind.i64 5]) :: (Value.agg #[Value.int IntKind.i64 11, Value.int IntKind.i64 6]) :: (Value.agg #[Value.int IntKind.i64 25, Value.int IntKind.i64 24]) :: (Value.agg #[Value.int IntKind.i64 49, Value.int IntKind.i64 47]) :: (Value.agg #[Value.int IntKind.i64 121, Value.int IntKind.i64 116]) :: (Value.slice (some { block := bl, off := 0 }) 6 6) :: (Value.int IntKind.i64 ↑i) :: (Value.slice (some { block := bl, off := 0 }) 6 6) :: (Value.int IntKind.i64 6) :: (Value.bool true) :: (u43) :: (u44) :: (.int .i64 (nM : Int)) :: (.slice (some ⟨bl, 0, none⟩) 6 6) :: (.int .i64 (i : Int)) :: (.pointer (some ⟨bl, i * 2, none⟩)) :: (.pointer (some ⟨bl, i * 2, none⟩)) :: (.int .i64 (ma : Int)) :: (.int .i64 (tm : Int)) :: (.slice (some ⟨bl, 0, none⟩) 6 6) :: (.int .i64 (i : Int)) :: (.pointer (some ⟨bl, i * 2, none⟩)) :: (.pointer (some ⟨bl, i * 2 + 1, none⟩)) :: (.int .i64 (mr : Int)) :: (.bool true) :: (.bool true) :: (.pointer (some ⟨b0, 0, none⟩)) :: (.pointer (some ⟨bk, 0, none⟩)) :: (.slice (some ⟨bl, 0, none⟩) 6 6) :: (.int .i64 (i : Int)) :: (.pointer (some ⟨bl, i * 2, none⟩)) :: (.pointer (some ⟨bl, i * 2, none⟩)) :: (.int .i64 (ma : Int)) :: (.pointer (some ⟨n0, 0, none⟩)) :: (.pointer (some ⟨b0, 0, none⟩)) :: (u68) :: (u69) :: (u70) :: []).toArray, defers := [] } ∧ Hid (Below wr.heap.size wr w1 ∧ wr.heap.size ≤ b0 ∧ BigAt w1 b0 ((p : Int) % (ma : Int)) ∧ wr.heap.size ≤ n0 ∧ BigAt w1 n0 (ma : Int) ∧ b0 ≠ n0)) ∨ (∃ b0 n0 : Nat, n = 2 ∧ l = #[true, true, true, true, true, true, true, true, true, true, true, true, true, true, true, true, true, true, true, true, true, true, true, true, false, false] ∧ a = { tmps := ((Value.int IntKind.i64 ↑nM) :: (undef) :: (u2) :: (Value.string st) :: (Value.pointer (some { block := bf, off := 0 })) :: (Value.pointer (some { block := bk, off := 0 })) :: (Value.bool true) :: (Value.slice (some { block := bl, off := 0 }) 6 6) :: (Value.int IntKind.i64 ↑i) :: (Value.tuple #[Value.string st, Value.agg #[Value.int IntKind.i64 0, Value.int IntKind.i64 0]]) :: (Value.int IntKind.i64 ↑nM) :: (Value.tuple #[Value.string st, Value.agg #[Value.int IntKind.i64 0, Value.int IntKind.i64 0]]) :: (Value.string st) :: (Value.agg #[Value.int IntKind.i64 0, Value.int IntKind.i64 0]) :: (Value.bool true) :: (Value.bool false) :: (Value.pointer (some { block := bf, off := 0 })) :: (Value.int IntKind.i64 0) :: (Value.bool false) :: (undef) :: (undef) :: (undef) :: (undef) :: (undef) :: (undef) :: (Value.tuple #[Value.pointer (some { block := bk, off := 0 }), Value.bool true]) :: (Value.string st) :: (Value.tuple #[Value.pointer (some { block := bk, off := 0 }), Value.bool true]) :: (Value.pointer (some { block := bk, off := 0 })) :: (Value.bool true) :: (Value.bool true) :: (Value.bool false) :: (Value.agg #[Value.int IntKind.i64 5, Value.int IntKind.i64 4]) :: (Value.agg #[Value.int IntKind.i64 7, Value.int IntKind.i64 5]) :: (Value.agg #[Value.int IntKind.i64 11, Value.int IntKind.i64 6]) :: (Value.agg #[Value.int IntKind.i64 25, Value.int IntKind.i64 24]) :: (Value.agg #[Value.int IntKind.i64 49, Value.int IntKind.i64 47]) :: (Value.agg #[Value.int IntKind.i64 121, Value.int IntKind.i64 116]) :: (Value.slice (some { block := bl, off := 0 }) 6 6) :: (Value.int IntKind.i64 ↑i) :: (Value.slice (some { block := bl, off := 0 }) 6 6) :: (Value.int IntKind.i64 6) :: (Value.bool true) :: (u43) :: (u44) :: (.int .i64 (nM : Int)) :: (.slice (some ⟨bl, 0, none⟩) 6 6) :: (.int .i64 (i : Int)) :: (.pointer (some ⟨bl, i * 2, none⟩)) :: (.pointer (some ⟨bl, i * 2, none⟩)) :: (.int .i64 (ma : Int)) :: (.int .i64 (tm : Int)) :: (.slice (some ⟨bl, 0, none⟩) 6 6) :: (.int .i64 (i : Int)) :: (.pointer (some ⟨bl, i * 2, none⟩)) :: (.pointer (some ⟨bl, i * 2 + 1, none⟩)) :: (.int .i64 (mr : Int)) :: (.bool true) :: (.bool true) :: (.pointer (some ⟨b0, 0, none⟩)) :: (.pointer (some ⟨bk, 0, none⟩)) :: (.slice (some ⟨bl, 0, none⟩) 6 6) :: (.int .i64 (i : Int)) :: (.pointer (some ⟨bl, i * 2, none⟩)) :: (.pointer (some ⟨bl, i * 2, none⟩)) :: (.int .i64 (ma : Int)) :: (.pointer (some ⟨n0, 0, none⟩)) :: (.pointer (some ⟨b0, 0, none⟩)) :: (.int .i64 0) :: (u69) :: (u70) :: []).toArray, defers := [] } ∧ Hid (Below wr.heap.size wr w1 ∧ wr.heap.size ≤ b0 ∧ BigAt w1 b0 ((p : Int) % (ma : Int)) ∧ wr.heap.size ≤ n0 ∧ BigAt w1 n0 (ma : Int) ∧ b0 ≠ n0)) ∨ (∃ b0 n0 : Nat, n = 1 ∧ l = #[true, true, true, true, true, true, true, true, true, true, true, true, true, true, true, true, true, true, true, true, true, true, true, true, true, false] ∧ a = { tmps := ((Value.int IntKind.i64 ↑nM) :: (undef) :: (u2) :: (Value.string st) :: (Value.pointer (some { block := bf, off := 0 })) :: (Value.pointer (some { block := bk, off := 0 })) :: (Value.bool true) :: (Value.slice (some { block := bl, off := 0 }) 6 6) :: (Value.int IntKind.i64 ↑i) :: (Value.tuple #[Value.string st, Value.agg #[Value.int IntKind.i64 0, Value.int IntKind.i64 0]]) :: (Value.int IntKind.i64 ↑nM) :: (Value.tuple #[Value.string st, Value.agg #[Value.int IntKind.i64 0, Value.int IntKind.i64 0]]) :: (Value.string st) :: (Value.agg #[Value.int IntKind.i64 0, Value.int IntKind.i64 0]) :: (Value.bool true) :: (Value.bool false) :: (Value.pointer (some { block := bf, off := 0 })) :: (Value.int IntKind.i64 0) :: (Value.bool false) :: (undef) :: (undef) :: (undef) :: (undef) :: (undef) :: (undef) :: (Value.tuple #[Value.pointer (some { block := bk, off := 0 }), Value.bool true]) :: (Value.string st) :: (Value.tuple #[Value.pointer (some { block := bk, off := 0 }), Value.bool true]) :: (Value.pointer (some { block := bk, off := 0 })) :: (Value.bool true) :: (Value.bool true) :: (Value.bool false) :: (Value.agg #[Value.int IntKind.i64 5, Value.int IntKind.i64 4]) :: (Value.agg #[Value.int IntKind.i64 7, Value.int IntKind.i64 5]) :: (Value.agg #[Value.int IntKind.i64 11, Value.int IntKind.i64 6]) :: (Value.agg #[Value.int IntKind.i64 25, Value.int IntKind.i64 24]) :: (Value.agg #[Value.int IntKind.i64 49, Value.int IntKind.i64 47]) :: (Value.agg #[Value.int IntKind.i64 121, Value.int IntKind.i64 116]) :: (Value.slice (some { block := bl, off := 0 }) 6 6) :: (Value.int IntKind.i64 ↑i) :: (Value.slice (some { block := bl, off := 0 }) 6 6) :: (Value.int IntKind.i64 6) :: (Value.bool true) :: (u43) :: (u44) :: (.int .i64 (nM : Int)) :: (.slice (some ⟨bl, 0, none⟩) 6 6) :: (.int .i64 (i : Int)) :: (.pointer (some ⟨bl, i * 2, none⟩)) :: (.pointer (some ⟨bl, i * 2, none⟩)) :: (.int .i64 (ma : Int)) :: (.int .i64 (tm : Int)) :: (.slice (some ⟨bl, 0, none⟩) 6 6) :: (.int .i64 (i : Int)) :: (.pointer (some ⟨bl, i * 2, none⟩)) :: (.pointer (some ⟨bl, i * 2 + 1, none⟩)) :: (.int .i64 (mr : Int)) :: (.bool true) :: (.bool true) :: (.pointer (some ⟨b0, 0, none⟩)) :: (.pointer (some ⟨bk, 0, none⟩)) :: (.slice (some ⟨bl, 0, none⟩) 6 6) :: (.int .i64 (i : Int)) :: (.pointer (some ⟨bl, i * 2, none⟩)) :: (.pointer (some ⟨bl, i * 2, none⟩)) :: (.int .i64 (ma : Int)) :: (.pointer (some ⟨n0, 0, none⟩)) :: (.pointer (some ⟨b0, 0, none⟩)) :: (.int .i64 0) :: (.bool false) :: (u70) :: []).toArray, defers := [] } ∧ Hid (Below wr.heap.size wr w1 ∧ wr.heap.size ≤ b0 ∧ BigAt w1 b0 ((p : Int) % (ma : Int)) ∧ wr.heap.size ≤ n0 ∧ BigAt w1 n0 (ma : Int) ∧ b0 ≠ n0)) ∨ (∃ b0 n0 : Nat, n = 0 ∧ l = #[true, true, true, true, true, true, true, true, true, true, true, true, true, true, true, true, true, true, true, true, true, true, true, true, true, true] ∧ a = { tmps := ((Value.int IntKind.i64 ↑nM) :: (undef) :: (u2) :: (Value.string st) :: (Value.pointer (some { block := bf, off := 0 })) :: (Value.pointer (some { block := bk, off := 0 })) :: (Value.bool true) :: (Value.slice (some { block := bl, off := 0 }) 6 6) :: (Value.int IntKind.i64 ↑i) :: (Value.tuple #[Value.string st, Value.agg #[Value.int IntKind.i64 0, Value.int IntKind.i64 0]]) :: (Value.int IntKind.i64 ↑nM) :: (Value.tuple #[Value.string st, Value.agg #[Value.int IntKind.i64 0, Value.int IntKind.i64 0]]) :: (Value.string st) :: (Value.agg #[Value.int IntKind.i64 0, Value.int IntKind.i64 0]) :: (Value.bool true) :: (Value.bool false) :: (Value.pointer (some { block := bf, off := 0 })) :: (Value.int IntKind.i64 0) :: (Value.bool false) :: (undef) :: (undef) :: (undef) :: (undef) :: (undef) :: (undef) :: (Value.tuple #[Value.pointer (some { block := bk, off := 0 }), Value.bool true]) :: (Value.string st) :: (Value.tuple #[Value.pointer (some { block := bk, off := 0 }), Value.bool true]) :: (Value.pointer (some { block := bk, off := 0 })) :: (Value.bool true) :: (Value.bool true) :: (Value.bool false) :: (Value.agg #[Value.int IntKind.i64 5, Value.int IntKind.i64 4]) :: (Value.agg #[Value.int IntKind.i64 7, Value.int IntKind.i64 5]) :: (Value.agg #[Value.int IntKind.i64 11, Value.int IntKind.i64 6]) :: (Value.agg #[Value.int IntKind.i64 25, Value.int IntKind.i64 24]) :: (Value.agg #[Value.int IntKind.i64 49, Value.int IntKind.i64 47]) :: (Value.agg #[Value.int IntKind.i64 121, Value.int IntKind.i64 116]) :: (Value.slice (some { block := bl, off := 0 }) 6 6) :: (Value.int IntKind.i64 ↑i) :: (Value.slice (some { block := bl, off := 0 }) 6 6) :: (Value.int IntKind.i64 6) :: (Value.bool true) :: (u43) :: (u44) :: (.int .i64 (nM : Int)) :: (.slice (some ⟨bl, 0, none⟩) 6 6) :: (.int .i64 (i : Int)) :: (.pointer (some ⟨bl, i * 2, none⟩)) :: (.pointer (some ⟨bl, i * 2, none⟩)) :: (.int .i64 (ma : Int)) :: (.int .i64 (tm : Int)) :: (.slice (some ⟨bl, 0, none⟩) 6 6) :: (.int .i64 (i : Int)) :: (.pointer (some ⟨bl, i * 2, none⟩)) :: (.pointer (some ⟨bl, i * 2 + 1, none⟩)) :: (.int .i64 (mr : Int)) :: (.bool true) :: (.bool true) :: (.pointer (some ⟨b0, 0, none⟩)) :: (.pointer (some ⟨bk, 0, none⟩)) :: (.slice (some ⟨bl, 0, none⟩) 6 6) :: (.int .i64 (i : Int)) :: (.pointer (some ⟨bl, i * 2, none⟩)) :: (.pointer (some ⟨bl, i * 2, none⟩)) :: (.int .i64 (ma : Int)) :: (.pointer (some ⟨n0, 0, none⟩)) :: (.pointer (some ⟨b0, 0, none⟩)) :: (.int .i64 0) :: (.bool false) :: (.bool false) :: []).toArray, defers := [] } ∧ Hid (Below wr.heap.size wr w1 ∧ wr.heap.size ≤ b0 ∧ BigAt w1 b0 ((p : Int) % (ma : Int)) ∧ wr.heap.size ≤ n0 ∧ BigAt w1 n0 (ma : Int) ∧ b0 ≠ n0))) ?steps _ _ _ _ ?start
        case start => exact Or.inl (⟨rfl, rfl, rfl, (Below.refl wr.heap.size wr).drew⟩)
        case steps =>
          intro n l a w1 hI
          rcases hI with hI | hI | hI | hI | hI | hI | hI | hI
          · obtain ⟨rfl, rfl, rfl, HH⟩ := hI
            right
            refine ⟨5, [14, 21], rfl, by kernel_rfl, by simp, fun i hi => ?_⟩
            simp only [List.mem_cons, List.not_mem_nil, or_false] at hi
            rcases hi with rfl | rfl
            · refine ⟨_, rfl, fun K' hK => ?_⟩
              rw [if_pos (by kernel_rfl)]
              go_simp
              have K := HH.out
              refine hK.out _ _ (fun _ _ => (HS.out _ (K.alloc K.size _))) (Or.inr (Or.inl (⟨w1.heap.size, rfl, rfl, rfl, K.alloc K.size _, K.size, slot_new w1 _ _⟩)))
            · refine ⟨_, rfl, fun K' hK => ?_⟩
              rw [if_pos (by kernel_rfl)]
              go_simp
              have K := HH.out
              refine (B_any (ma : Int) w1 HMb.out.1 HMb.out.2).mono ?_
              rintro e w2 ⟨n0, rfl, m2⟩
              refine hK.out _ _ (fun _ _ => (HS.out _ (K.trans (m2.2.2.mono K.size)))) (Or.inr (Or.inr (Or.inl (⟨n0, rfl, rfl, rfl, (K.trans (m2.2.2.mono K.size)), (Nat.le_trans K.size m2.1), m2.2.1⟩))))
          · obtain ⟨b0, rfl, rfl, rfl, HH⟩ := hI
            right
            refine ⟨4, [21], rfl, by kernel_rfl, by simp, fun i hi => ?_⟩
            simp only [List.mem_cons, List.not_mem_nil, or_false] at hi
            subst hi
            refine ⟨_, rfl, fun K' hK => ?_⟩
            rw [if_pos (by kernel_rfl)]
            go_simp
            obtain ⟨K, ge_b0, at_b0⟩ := HH.out
            refine (B_any (ma : Int) w1 HMb.out.1 HMb.out.2).mono ?_
            rintro e w2 ⟨n0, rfl, m2⟩
            refine hK.out _ _ (fun _ _ => (HS.out _ (K.trans (m2.2.2.mono K.size)))) (Or.inr (Or.inr (Or.inr (Or.inl (⟨b0, n0, rfl, rfl, rfl, (K.trans (m2.2.2.mono K.size)), ge_b0, at_b0.below m2.2.2 (Nat.le_refl _), (Nat.le_trans K.size m2.1), m2.2.1, (Nat.ne_of_lt (Nat.lt_of_lt_of_le at_b0.lt m2.1))⟩)))))
          · obtain ⟨n0, rfl, rfl, rfl, HH⟩ := hI
            right
            refine ⟨4, [14], rfl, by kernel_rfl, by simp, fun i hi => ?_⟩
            simp only [List.mem_cons, List.not_mem_nil, or_false] at hi
            subst hi
            refine ⟨_, rfl, fun K' hK => ?_⟩
            rw [if_pos (by kernel_rfl)]
            go_simp
            obtain ⟨K, ge_n0, at_n0⟩ := HH.out
            refine hK.out _ _ (fun _ _ => (HS.out _ (K.alloc K.size _))) (Or.inr (Or.inr (Or.inr (Or.inl (⟨w1.heap.size, n0, rfl, rfl, rfl, K.alloc K.size _, K.size, slot_new w1 _ _, ge_n0, at_n0.below (Below.alloc_self' w1 _) (Nat.le_refl _), (Nat.ne_of_gt at_n0.lt)⟩)))))
          · obtain ⟨b0, n0, rfl, rfl, rfl, HH⟩ := hI
            right
            refine ⟨3, [22], rfl, by kernel_rfl, by simp, fun i hi => ?_⟩
            simp only [List.mem_cons, List.not_mem_nil, or_false] at hi
            subst hi
            refine ⟨_, rfl, fun K' hK => ?_⟩
            rw [if_pos (by kernel_rfl)]
            go_simp
            obtain ⟨K, ge_b0, at_b0, ge_n0, at_n0, ne_b0_n0⟩ := HH.out
            refine (Mod_any b0 bk n0 (p : Int) (ma : Int) 6 2 w1 at_b0 (HG.out.2.1.below K (Nat.le_refl _)) at_n0 HMa.out.2 HOk.out.2 HMa.out.1 (by omega) (by omega)).mono ?_
            rintro e w2 ⟨rfl, h2, u2⟩
            refine hK.out _ _ (fun _ _ => (HS.out _ (K.trans (u2.below K.size ge_b0)))) (Or.inr (Or.inr (Or.inr (Or.inr (Or.inl (⟨b0, n0, rfl, rfl, rfl, (K.trans (u2.below K.size ge_b0)), ge_b0, h2, ge_n0, at_n0.upd u2 at_b0 (Ne.symm ne_b0_n0), ne_b0_n0⟩))))))
          · obtain ⟨b0, n0, rfl, rfl, rfl, HH⟩ := hI
            right
            refine ⟨2, [23], rfl, by kernel_rfl, by simp, fun i hi => ?_⟩
            simp only [List.mem_cons, List.not_mem_nil, or_false] at hi
            subst hi
            refine ⟨_, rfl, fun K' hK => ?_⟩
            rw [if_pos (by kernel_rfl)]
            go_simp
            obtain ⟨K, ge_b0, at_b0, ge_n0, at_n0, ne_b0_n0⟩ := HH.out
            refine (Sign_any b0 ((p : Int) % (ma : Int)) w1 at_b0).mono ?_
            rw [hsg]
            rintro e w2 ⟨rfl, hw⟩
            rw [hw]
            clear hw w2
            refine hK.out _ _ (fun _ _ => (HS.out _ K)) (Or.inr (Or.inr (Or.inr (Or.inr (Or.inr (Or.inl (⟨b0, n0, rfl, rfl, rfl, K, ge_b0, at_b0, ge_n0, at_n0, ne_b0_n0⟩)))))))
          · obtain ⟨b0, n0, rfl, rfl, rfl, HH⟩ := hI
            right
            refine ⟨1, [24], rfl, by kernel_rfl, by simp, fun i hi => ?_⟩
            simp only [List.mem_cons, List.not_mem_nil, or_false] at hi
            subst hi
            refine ⟨_, rfl, fun K' hK => ?_⟩
            rw [if_pos (by kernel_rfl)]
            go_simp
            obtain ⟨K, ge_b0, at_b0, ge_n0, at_n0, ne_b0_n0⟩ := HH.out
            refine hK.out _ _ (fun _ _ => (HS.out _ K)) (Or.inr (Or.inr (Or.inr (Or.inr (Or.inr (Or.inr (Or.inl (⟨b0, n0, rfl, rfl, rfl, K, ge_b0, at_b0, ge_n0, at_n0, ne_b0_n0⟩))))))))
          · obtain ⟨b0, n0, rfl, rfl, rfl, HH⟩ := hI
            right
            refine ⟨0, [25], rfl, by kernel_rfl, by simp, fun i hi => ?_⟩
            simp only [List.mem_cons, List.not_mem_nil, or_false] at hi
            subst hi
            refine ⟨_, rfl, fun K' hK => ?_⟩
            go_simp
            obtain ⟨K, ge_b0, at_b0, ge_n0, at_n0, ne_b0_n0⟩ := HH.out
            refine hK.out _ _ (fun _ h => absurd rfl h) (Or.inr (Or.inr (Or.inr (Or.inr (Or.inr (Or.inr (Or.inr (⟨b0, n0, rfl, rfl, rfl, K, ge_b0, at_b0, ge_n0, at_n0, ne_b0_n0⟩))))))))
          · obtain ⟨b0, n0, rfl, rfl, rfl, HH⟩ := hI
            obtain ⟨K, ge_b0, at_b0, ge_n0, at_n0, ne_b0_n0⟩ := HH.out
            left
            refine ⟨by kernel_rfl, ?_⟩
            have HG2 : Hid (Below w.heap.size w w1 ∧ BigAt w1 bk (p : Int) ∧ Cl bl rml 30 w1) := ⟨HG.out.1.trans (K.mono HG.out.1.size), HG.out.2.1.below K (Nat.le_refl _), HG.out.2.2.below K⟩
            clear HH K
            go_wp2
            go_roundg (6 - (i + 1))
            case rel => exact ⟨i + 1, by go_num, rfl, by omega, HG2.out⟩
            case measure => have := HKi.out; omega
      · have te : ((tm : Int) == (mr : Int)) = false := beq_eq_false_iff_ne.2 (by omega)
        clear he
        refine wp_region_G (fun W' => W'.cell? ⟨bl, i * 2, none⟩ = some (.int .i64 (ma : Int)) ∧ W'.cell? ⟨bl, i * 2 + 1, none⟩ = some (.int .i64 (mr : Int))) 25 (by kernel_rfl) (HS.out _ (Below.refl _ _).drew) (fun hHeld => ?_)
        clear c0 c1
        refine wpAnyG_take (i := 0) (v := ?v0x21) rfl (by kernel_rfl) (fun _ _ _ h => h) (Or.inl ⟨by rfl, ?y0x21⟩) hHeld ?r0x21
        case y0x21 => (intro wS hSw; obtain ⟨s1, s2⟩ := hSw; go_simp; try with_reducible rfl)
        simp only [Act.put, List.getElem_toArray, List.getElem_cons_zero, List.getElem_cons_succ, List.setIfInBounds_toArray, List.set_cons_zero, List.set_cons_succ]
        refine wpAnyG_take (i := 1) (v := ?v1x22) rfl (by kernel_rfl) (fun _ _ _ h => h) (Or.inl ⟨by rfl, ?y1x22⟩) hHeld ?r1x22
        case y1x22 => (intro wS hSw; obtain ⟨s1, s2⟩ := hSw; go_simp; try with_reducible rfl)
        simp only [Act.put, List.getElem_toArray, List.getElem_cons_zero, List.getElem_cons_succ, List.setIfInBounds_toArray, List.set_cons_zero, List.set_cons_succ]
        refine wpAnyG_take (i := 2) (v := ?v2x23) rfl (by kernel_rfl) (fun _ _ _ h => h) (Or.inl ⟨by rfl, ?y2x23⟩) hHeld ?r2x23
        case y2x23 => (intro wS hSw; obtain ⟨s1, s2⟩ := hSw; go_simp; try with_reducible rfl)
        simp only [Act.put, List.getElem_toArray, List.getElem_cons_zero, List.getElem_cons_succ, List.setIfInBounds_toArray, List.set_cons_zero, List.set_cons_succ]
        refine wpAnyG_take (i := 3) (v := ?v3x24) rfl (by kernel_rfl) (fun _ _ _ h => h) (Or.inl ⟨by rfl, ?y3x24⟩) hHeld ?r3x24
        case y3x24 => (intro wS hSw; obtain ⟨s1, s2⟩ := hSw; go_simp; try with_reducible rfl)
        simp only [Act.put, List.getElem_toArray, List.getElem_cons_zero, List.getElem_cons_succ, List.setIfInBounds_toArray, List.set_cons_zero, List.set_cons_succ]
        refine wpAnyG_take (i := 4) (v := ?v4x25) rfl (by kernel_rfl) (fun _ _ _ h => h) (Or.inl ⟨by rfl, ?y4x25⟩) hHeld ?r4x25
        case y4x25 => (intro wS hSw; obtain ⟨s1, s2⟩ := hSw; go_simp; try with_reducible rfl)
        simp only [Act.put, List.getElem_toArray, List.getElem_cons_zero, List.getElem_cons_succ, List.setIfInBounds_toArray, List.set_cons_zero, List.set_cons_succ]
        refine wpAnyG_take (i := 5) (v := ?v5x26) rfl (by kernel_rfl) (fun _ _ _ h => h) (Or.inl ⟨by rfl, ?y5x26⟩) hHeld ?r5x26
        case y5x26 => (intro wS hSw; obtain ⟨s1, s2⟩ := hSw; go_simp; try with_reducible rfl)
        simp only [Act.put, List.getElem_toArray, List.getElem_cons_zero, List.getElem_cons_succ, List.setIfInBounds_toArray, List.set_cons_zero, List.set_cons_succ]
        refine wpAnyG_take (i := 6) (v := .int .i64 (tm : Int)) rfl (by kernel_rfl) (fun _ _ _ h => h) (Or.inl ⟨by kernel_rfl, ?y6x27⟩) hHeld ?r6x27
        case y6x27 => (intro wS hSw; (go_simp; try simp only [htm, if_neg hzn]))
        simp only [Act.put, List.getElem_toArray, List.getElem_cons_zero, List.getElem_cons_succ, List.setIfInBounds_toArray, List.set_cons_zero, List.set_cons_succ]
        refine wpAnyG_take (i := 7) (v := ?v7x28) rfl (by kernel_rfl) (fun _ _ _ h => h) (Or.inl ⟨by rfl, ?y7x28⟩) hHeld ?r7x28
        case y7x28 => (intro wS hSw; obtain ⟨s1, s2⟩ := hSw; go_simp; try with_reducible rfl)
        simp only [Act.put, List.getElem_toArray, List.getElem_cons_zero, List.getElem_cons_succ, List.setIfInBounds_toArray, List.set_cons_zero, List.set_cons_succ]
        refine wpAnyG_take (i := 8) (v := ?v8x29) rfl (by kernel_rfl) (fun _ _ _ h => h) (Or.inl ⟨by rfl, ?y8x29⟩) hHeld ?r8x29
        case y8x29 => (intro wS hSw; obtain ⟨s1, s2⟩ := hSw; go_simp; try with_reducible rfl)
        simp only [Act.put, List.getElem_toArray, List.getElem_cons_zero, List.getElem_cons_succ, List.setIfInBounds_toArray, List.set_cons_zero, List.set_cons_succ]
        refine wpAnyG_take (i := 9) (v := ?v9x30) rfl (by kernel_rfl) (fun _ _ _ h => h) (Or.inl ⟨by rfl, ?y9x30⟩) hHeld ?r9x30
        case y9x30 => (intro wS hSw; obtain ⟨s1, s2⟩ := hSw; go_simp; try with_reducible rfl)
        simp only [Act.put, List.getElem_toArray, List.getElem_cons_zero, List.getElem_cons_succ, List.setIfInBounds_toArray, List.set_cons_zero, List.set_cons_succ]
        refine wpAnyG_take (i := 10) (v := ?v10x31) rfl (by kernel_rfl) (fun _ _ _ h => h) (Or.inl ⟨by rfl, ?y10x31⟩) hHeld ?r10x31
        case y10x31 => (intro wS hSw; obtain ⟨s1, s2⟩ := hSw; go_simp; try with_reducible rfl)
        simp only [Act.put, List.getElem_toArray, List.getElem_cons_zero, List.getElem_cons_succ, List.setIfInBounds_toArray, List.set_cons_zero, List.set_cons_succ]
        refine wpAnyG_take (i := 11) (v := ?v11x32) rfl (by kernel_rfl) (fun _ _ _ h => h) (Or.inl ⟨by rfl, ?y11x32⟩) hHeld ?r11x32
        case y11x32 => (intro wS hSw; obtain ⟨s1, s2⟩ := hSw; go_simp; try with_reducible rfl)
        simp only [Act.put, List.getElem_toArray, List.getElem_cons_zero, List.getElem_cons_succ, List.setIfInBounds_toArray, List.set_cons_zero, List.set_cons_succ]
        refine wpAnyG_take (i := 12) (v := .bool false) rfl (by kernel_rfl) (fun _ _ _ h => h) (Or.inl ⟨by kernel_rfl, ?y12x33⟩) hHeld ?r12x33
        case y12x33 => (intro wS hSw; obtain ⟨s1, s2⟩ := hSw; go_simp; try simp only [te])
        simp only [Act.put, List.getElem_toArray, List.getElem_cons_zero, List.getElem_cons_succ, List.setIfInBounds_toArray, List.set_cons_zero, List.set_cons_succ]
        refine wpAnyG_take (i := 13) (v := .bool false) rfl (by kernel_rfl) (fun _ _ _ h => h) (Or.inl ⟨by kernel_rfl, ?y13x34⟩) hHeld ?r13x34
        case y13x34 => (intro wS hSw; (go_simp))
        simp only [Act.put, List.getElem_toArray, List.getElem_cons_zero, List.getElem_cons_succ, List.setIfInBounds_toArray, List.set_cons_zero, List.set_cons_succ]
        refine wpAnyG_take (i := 14) (v := undef) rfl (by kernel_rfl) (fun _ _ _ h => h) (Or.inr ⟨by kernel_rfl, rfl⟩) hHeld ?_
        simp only [Act.put, List.getElem_toArray, List.getElem_cons_zero, List.getElem_cons_succ, List.setIfInBounds_toArray, List.set_cons_zero, List.set_cons_succ]
        refine wpAnyG_take (i := 15) (v := undef) rfl (by kernel_rfl) (fun _ _ _ h => h) (Or.inr ⟨by kernel_rfl, rfl⟩) hHeld ?_
        simp only [Act.put, List.getElem_toArray, List.getElem_cons_zero, List.getElem_cons_succ, List.setIfInBounds_toArray, List.set_cons_zero, List.set_cons_succ]
        refine wpAnyG_take (i := 16) (v := undef) rfl (by kernel_rfl) (fun _ _ _ h => h) (Or.inr ⟨by kernel_rfl, rfl⟩) hHeld ?_
        simp only [Act.put, List.getElem_toArray, List.getElem_cons_zero, List.getElem_cons_succ, List.setIfInBounds_toArray, List.set_cons_zero, List.set_cons_succ]
        refine wpAnyG_take (i := 17) (v := undef) rfl (by kernel_rfl) (fun _ _ _ h => h) (Or.inr ⟨by kernel_rfl, rfl⟩) hHeld ?_
        simp only [Act.put, List.getElem_toArray, List.getElem_cons_zero, List.getElem_cons_succ, List.setIfInBounds_toArray, List.set_cons_zero, List.set_cons_succ]
        refine wpAnyG_take (i := 18) (v := undef) rfl (by kernel_rfl) (fun _ _ _ h => h) (Or.inr ⟨by kernel_rfl, rfl⟩) hHeld ?_
        simp only [Act.put, List.getElem_toArray, List.getElem_cons_zero, List.getElem_cons_succ, List.setIfInBounds_toArray, List.set_cons_zero, List.set_cons_succ]
        refine wpAnyG_take (i := 19) (v := undef) rfl (by kernel_rfl) (fun _ _ _ h => h) (Or.inr ⟨by kernel_rfl, rfl⟩) hHeld ?_
        simp only [Act.put, List.getElem_toArray, List.getElem_cons_zero, List.getElem_cons_succ, List.setIfInBounds_toArray, List.set_cons_zero, List.set_cons_succ]
        refine wpAnyG_take (i := 20) (v := undef) rfl (by kernel_rfl) (fun _ _ _ h => h) (Or.inr ⟨by kernel_rfl, rfl⟩) hHeld ?_
        simp only [Act.put, List.getElem_toArray, List.getElem_cons_zero, List.getElem_cons_succ, List.setIfInBounds_toArray, List.set_cons_zero, List.set_cons_succ]
        refine wpAnyG_take (i := 21) (v := undef) rfl (by kernel_rfl) (fun _ _ _ h => h) (Or.inr ⟨by kernel_rfl, rfl⟩) hHeld ?_
        simp only [Act.put, List.getElem_toArray, List.getElem_cons_zero, List.getElem_cons_succ, List.setIfInBounds_toArray, List.set_cons_zero, List.set_cons_succ]
        refine wpAnyG_take (i := 22) (v := undef) rfl (by kernel_rfl) (fun _ _ _ h => h) (Or.inr ⟨by kernel_rfl, rfl⟩) hHeld ?_
        simp only [Act.put, List.getElem_toArray, List.getElem_cons_zero, List.getElem_cons_succ, List.setIfInBounds_toArray, List.set_cons_zero, List.set_cons_succ]
        refine wpAnyG_take (i := 23) (v := undef) rfl (by kernel_rfl) (fun _ _ _ h => h) (Or.inr ⟨by kernel_rfl, rfl⟩) hHeld ?_
        simp only [Act.put, List.getElem_toArray, List.getElem_cons_zero, List.getElem_cons_succ, List.setIfInBounds_toArray, List.set_cons_zero, List.set_cons_succ]
        refine wpAnyG_take (i := 24) (v := undef) rfl (by kernel_rfl) (fun _ _ _ h => h) (Or.inr ⟨by kernel_rfl, rfl⟩) hHeld ?_
        simp only [Act.put, List.getElem_toArray, List.getElem_cons_zero, List.getElem_cons_succ, List.setIfInBounds_toArray, List.set_cons_zero, List.set_cons_succ]
        refine wpAnyG_last (i := 25) rfl (by kernel_rfl) (by kernel_rfl) (fun K hK => ?_)
        go_simp
        refine hK.out _ _ ?_
        clear hK K
        refine wpAnyG_done (by kernel_rfl) ?_ _
        have HG2 : Hid (Below w.heap.size w wr.drew ∧ BigAt wr.drew bk (p : Int) ∧ Cl bl rml 30 wr.drew) := ⟨HG.out.1.drew, HG.out.2.1.below (Below.refl _ _).drew (Nat.le_refl _), HG.out.2.2.drew⟩
        go_wp2
        go_roundg (6 - (i + 1))
        case rel => exact ⟨i + 1, by go_num, rfl, by omega, HG2.out⟩
        case measure => have := HKi.out; omega
    · have ti : decide ((i : Int) < 6) = false := decide_eq_false (by omega)
      go_wp2
      go_ret
      exact ⟨rfl, HG.out.1⟩

end Go.Proofs.YtmifenflbaohnaaGreatDoor
