/- The law EquationMarkov: bounds above 100: the triples are good, in order, and their neighbours are there. Written by mkmw.py. -/
import Derived.Test.YtcbepaionliepaaMkP
import Derived.Test.YtcbepaionliepaaMkH
import Derived.Test.YtcbepaionliepaaMkJ
import Derived.Test.YtcbepaionliepaaBigO
import Derived.Test.YtcbepaionliepaaWholeD
set_option linter.unusedSimpArgs false
set_option linter.unusedVariables false
set_option maxRecDepth 100000
namespace Go.Proofs.Ytcbepaionliepaa
open Go.RowKit

/-- What stands in memory: the row of triples, and what is old. -/
structure Mw (w W : World) (g : Nat) (L : List T3) : Prop where
  row : ∀ j, j < L.length * 3 → W.cell? ⟨g, j, none⟩ = (tcl3 L)[j]?
  lt : g < W.heap.size
  k : Below w.heap.size w W
theorem Mw.below {w W W' : World} {g : Nat} {L : List T3} (h : Mw w W g L) (k : Below W.heap.size W W') : Mw w W' g L :=
  ⟨fun j hj => (k.cell (p := ⟨g, j, none⟩) h.lt).trans (h.row j hj), Nat.lt_of_lt_of_le h.lt k.size, h.k.trans (k.mono h.k.size)⟩
theorem Mw.at {w W : World} {g : Nat} {L : List T3} (h : Mw w W g L) {i : Nat} {t : T3} (hi : i < L.length) (ht : L[i] = t) : W.cell? ⟨g, i * 3, none⟩ = some (.int .i64 (t.1 : Int)) ∧ W.cell? ⟨g, i * 3 + 1, none⟩ = some (.int .i64 (t.2.1 : Int)) ∧ W.cell? ⟨g, i * 3 + 2, none⟩ = some (.int .i64 (t.2.2 : Int)) := by
  subst ht
  exact TR.at3 (B := 0) (v := undef) h.row hi
/-- The cells that the first test reads: the triple's box, and the triple ahead. -/
abbrev S6 (b g p : Nat) (t u : T3) (W : World) : Prop :=
  W.cell? ⟨b, 0, none⟩ = some (.int .i64 (t.1 : Int)) ∧ W.cell? ⟨b, 1, none⟩ = some (.int .i64 (t.2.1 : Int)) ∧ W.cell? ⟨b, 2, none⟩ = some (.int .i64 (t.2.2 : Int)) ∧ W.cell? ⟨g, p * 3, none⟩ = some (.int .i64 (u.1 : Int)) ∧ W.cell? ⟨g, p * 3 + 1, none⟩ = some (.int .i64 (u.2.1 : Int)) ∧ W.cell? ⟨g, p * 3 + 2, none⟩ = some (.int .i64 (u.2.2 : Int))
abbrev S3 (b : Nat) (t : T3) (W : World) : Prop :=
  W.cell? ⟨b, 0, none⟩ = some (.int .i64 (t.1 : Int)) ∧ W.cell? ⟨b, 1, none⟩ = some (.int .i64 (t.2.1 : Int)) ∧ W.cell? ⟨b, 2, none⟩ = some (.int .i64 (t.2.2 : Int))
/-- The cells that the last test reads. -/
abbrev S5 (b g k j ak z : Nat) (u : T3) (W : World) : Prop :=
  W.cell? ⟨b, k, none⟩ = some (.int .i64 (ak : Int)) ∧ W.cell? ⟨b, 2, none⟩ = some (.int .i64 (z : Int)) ∧ W.cell? ⟨g, j * 3, none⟩ = some (.int .i64 (u.1 : Int)) ∧ W.cell? ⟨g, j * 3 + 1, none⟩ = some (.int .i64 (u.2.1 : Int)) ∧ W.cell? ⟨g, j * 3 + 2, none⟩ = some (.int .i64 (u.2.2 : Int))
theorem tl3_c {b : Nat} {t : T3} {W : World} (h : Cl b (tl3 t) 42 W) : S3 b t W := ⟨h.cell 0, h.cell 1, h.cell 2⟩

set_option maxRecDepth 100000 in
set_option maxHeartbeats 8000000 in
theorem mk_great (m : Nat) (w : World) (hm : m ≤ 1000000000000000000) (hm0 : 100 < m) :
    Calls Try.prog 4 #[.int .i64 (m : Int)] w fun e w' => e = .returned (.bool true) ∧ Below w.heap.size w w' := by
  have HM : Hid (∀ w, Calls Try.prog 14 #[.int .i64 (m : Int)] w fun e w' => ∃ v, e = .returned (.tuple #[v, .agg #[.int .i64 0, .int .i64 0]]) ∧ TR w.heap.size w' v (MV.um m) ∧ Below w.heap.size w w') := fun w => Markov_ok m w (by omega)
  have HNm : Hid (∀ w, Calls Try.prog 15 #[.int .i64 (m : Int)] w fun e w' => e = .returned (.bool true) ∧ w' = w) := fun w => by
    refine (number_any m w).mono ?_
    rintro e w' ⟨rfl, hw⟩
    refine ⟨?_, hw⟩
    have : numB (m : Int) = true := by unfold numB; simp; omega
    rw [this]
  have HEq : Hid (∀ t u : T3, t ∈ MV.um m → u ∈ MV.um m → ∀ w, (Op.equalIn 10000 42 (tv3 t) (tv3 u)).run Try.prog w = .ok (decide (t = u)) w) := fun t u ht hu w => eq3 (Fit3.of (MV.mem_um.1 ht).1) (Fit3.of (MV.mem_um.1 hu).1) w
  obtain ⟨L, hL⟩ : ∃ L, L = MV.um m := ⟨_, rfl⟩
  have HL : Hid (L = MV.um m) := hL
  rw [← hL] at HM HEq
  have h1 : ∃ l, L = (1, 1, 1) :: l := by rw [hL]; exact MV.um_first (by omega)
  have hl0 : 0 < L.length := by obtain ⟨l, h⟩ := h1; rw [h]; simp
  have HF : Hid (L[0]'hl0 = (1, 1, 1)) := by show _ = _; obtain ⟨l, h⟩ := h1; simp [h]
  obtain ⟨N, hN⟩ : ∃ N, N = L.length := ⟨_, rfl⟩
  have hN1 : 1 ≤ N := by omega
  have hN2 : N ≤ 328 := by rw [hN, hL]; exact MV.um_len m
  have HN : Hid (N = L.length) := hN
  have t1 : decide ((m : Int) < 0) = false := decide_eq_false (by omega)
  have t2 : decide ((m : Int) ≤ 100) = false := decide_eq_false (by omega)
  have t3 : decide (5000 < (N : Int)) = false := decide_eq_false (by omega)
  have t4 : decide ((N : Int) < 1) = false := decide_eq_false (by omega)
  have HMb : Hid (m ≤ 1000000000000000000) := hm
  clear hm hm0 hL hN h1
  go_enter Try.func4, Try.ntmps4
  go_wp2_with fail
  refine (HM.out _).mono ?_
  rintro e w1 ⟨v, rfl, r1, k1⟩
  go_wp2_with fail
  obtain ⟨W1, hW1⟩ : ∃ W, W = w1.alloc (.cells #[.int .i64 0, .int .i64 0] 23) := ⟨_, rfl⟩
  obtain ⟨aa, g, cc, hv, hr1, hr2⟩ := r1.shape
  obtain ⟨ha, _, hg⟩ := hr1 hl0
  have H1 : Hid (Cl w1.heap.size [.int .i64 0, .int .i64 0] 23 W1 ∧ Mw w W1 g L) := by
    have kk : Below w1.heap.size w1 W1 := by rw [hW1]; exact Below.alloc (Below.refl _ _) (Nat.le_refl _) _
    refine ⟨by rw [hW1]; exact Cl.new [.int .i64 0, .int .i64 0] _ w1, ?_⟩
    exact (Mw.mk hr2 hg k1 : Mw w w1 g L).below kk
  rw [← HN.out, ha] at hv
  subst hv
  rw [← hW1]
  clear hW1 k1 r1 hr1 hr2 ha hg
  obtain ⟨bf, hbf⟩ : ∃ b, b = w1.heap.size := ⟨_, rfl⟩
  rw [← hbf] at H1 ⊢
  clear hbf
  refine (equationBegun_any _).mono ?_
  rintro e w2 ⟨rfl, k2⟩
  have H2 : Hid (Mw w w2 g L) := H1.out.2.below k2
  have C2 := H1.out.1.below k2
  have c0 : w2.cell? ⟨bf, 0, none⟩ = some (.int .i64 0) := C2.cell 0
  have c1 : w2.cell? ⟨bf, 1, none⟩ = some (.int .i64 0) := C2.cell 1
  clear H1 k2 C2
  go_wp2_with fail
  refine (HNm.out _).mono ?_
  rintro e w' ⟨rfl, hw'⟩
  rw [hw']
  clear hw' w'
  obtain ⟨r0, r1, r2⟩ := H2.out.at hl0 HF.out
  rw [Nat.zero_mul] at r0 r1 r2
  have heq : ∀ w, (Op.equalIn 10000 42 (.agg #[.int .i64 1, .int .i64 1, .int .i64 1]) (.agg #[.int .i64 1, .int .i64 1, .int .i64 1])).run Try.prog w = .ok true w := fun w => by
    have := HEq.out (1, 1, 1) (1, 1, 1) (by rw [← HF.out]; exact List.getElem_mem hl0) (by rw [← HF.out]; exact List.getElem_mem hl0) w
    rw [decide_eq_true rfl] at this
    exact this
  go_wp2
  clear c0 c1 r0 r1 r2 heq
  go_loopg [5] N (fun gk iv wx => ∃ i : Nat, iv = .int .i64 i ∧ Hid (gk = N - i ∧ i ≤ N ∧ Mw w wx g L))
  case atStart => exact ⟨0, rfl, rfl, by omega, H2.out⟩
  case round =>
    clear H2
    obtain ⟨i, rfl, HR⟩ := hrel
    obtain ⟨h1, h2, h3⟩ := HR.out
    have HK : Hid (gk = N - i) := h1
    have HW : Hid (Mw w wr g L) := h3
    clear HR h1
    by_cases hi : i < N
    · have ti : decide ((i : Int) < (N : Int)) = true := decide_eq_true (by omega)
      have hil : i < L.length := by have := HN.out; omega
      obtain ⟨t, ht⟩ : ∃ t, L[i]'hil = t := ⟨_, rfl⟩
      obtain ⟨r0, r1, r2⟩ := h3.at hil ht
      have HT : Hid (L[i]'hil = t) := ht
      have htm : t ∈ L := by rw [← ht]; exact List.getElem_mem hil
      have hgd : MV.Good t ∧ t.2.2 ≤ m := by rw [HL.out] at htm; exact MV.um_good htm
      have HTm : Hid (t ∈ L ∧ MV.Good t) := ⟨htm, hgd.1⟩
      have x1 := hgd.1.x1
      have xy := hgd.1.xy
      have yz := hgd.1.yz
      have zm := hgd.2
      have xe := hgd.1.eq
      have a1 : decide ((t.1 : Int) < 1) = false := decide_eq_false (by omega)
      have a2 : decide ((t.2.1 : Int) < (t.1 : Int)) = false := decide_eq_false (by omega)
      have a3 : decide ((t.2.2 : Int) < (t.2.1 : Int)) = false := decide_eq_false (by omega)
      have a4 : decide ((m : Int) < (t.2.2 : Int)) = false := decide_eq_false (by omega)
      have HIs : Hid (∀ w, Calls Try.prog 18 #[.agg #[.int .i64 (t.1 : Int), .int .i64 (t.2.1 : Int), .int .i64 (t.2.2 : Int)]] w fun e w' => e = .returned (.bool true) ∧ Below w.heap.size w w') := fun w => by
        have hmb := HMb.out
        have := MarkovIs_any t.1 t.2.1 t.2.2 w (by omega) (by omega) (by omega)
        rw [decide_eq_true xe] at this
        exact this
      clear ht htm hgd xe h3
      go_wp2_with fail
      obtain ⟨bt, hbt⟩ : ∃ b, b = wr.heap.size := ⟨_, rfl⟩
      obtain ⟨Wb, hWb⟩ : ∃ W, W = wr.alloc (.cells #[.int .i64 (t.1 : Int), .int .i64 (t.2.1 : Int), .int .i64 (t.2.2 : Int)] 42) := ⟨_, rfl⟩
      have HB : Hid (Mw w Wb g L ∧ Cl bt (tl3 t) 42 Wb) := by
        show _ ∧ _
        rw [hWb, hbt]
        exact ⟨HW.out.below (Below.alloc (Below.refl _ _) (Nat.le_refl _) _), Cl.new (tl3 t) _ wr⟩
      rw [← hWb, ← hbt]
      clear hbt hWb r0 r1 r2 HW
      go_cut [108] from 67 to 108 (fun tv wx => tv = .bool false ∧ Hid (Mw w wx g L ∧ Cl bt (tl3 t) 42 wx))
      case first =>
        by_cases hi0 : i = 0
        · subst hi0
          have HS : Hid (∀ W', Below Wb.heap.size Wb W' → S3 bt t W') := fun W' k => tl3_c (HB.out.2.below k)
          refine wp_region_G (S3 bt t) 41 (by kernel_rfl) (HS.out _ (Below.refl _ _).drew) (fun hHeld => ?_)
          refine wpAnyG_take (i := 0) (v := ?v0x1) rfl (by kernel_rfl) (fun _ _ _ h => h) (Or.inl ⟨by rfl, ?y0x1⟩) hHeld ?r0x1
          case y0x1 => (intro wS hSw; obtain ⟨s1, s2, s3⟩ := hSw; go_simp; try with_reducible rfl)
          simp only [Act.put, List.getElem_toArray, List.getElem_cons_zero, List.getElem_cons_succ, List.setIfInBounds_toArray, List.set_cons_zero, List.set_cons_succ]
          refine wpAnyG_take (i := 1) (v := ?v1x2) rfl (by kernel_rfl) (fun _ _ _ h => h) (Or.inl ⟨by rfl, ?y1x2⟩) hHeld ?r1x2
          case y1x2 => (intro wS hSw; obtain ⟨s1, s2, s3⟩ := hSw; go_simp; try with_reducible rfl)
          simp only [Act.put, List.getElem_toArray, List.getElem_cons_zero, List.getElem_cons_succ, List.setIfInBounds_toArray, List.set_cons_zero, List.set_cons_succ]
          refine wpAnyG_take (i := 2) (v := .bool false) rfl (by kernel_rfl) (fun _ _ _ h => h) (Or.inl ⟨by kernel_rfl, ?y2x3⟩) hHeld ?r2x3
          case y2x3 => (intro wS hSw; (go_simp; try simp only [a1]))
          simp only [Act.put, List.getElem_toArray, List.getElem_cons_zero, List.getElem_cons_succ, List.setIfInBounds_toArray, List.set_cons_zero, List.set_cons_succ]
          refine wpAnyG_take (i := 3) (v := .bool false) rfl (by kernel_rfl) (fun _ _ _ h => h) (Or.inl ⟨by kernel_rfl, ?y3x4⟩) hHeld ?r3x4
          case y3x4 => (intro wS hSw; go_simp)
          simp only [Act.put, List.getElem_toArray, List.getElem_cons_zero, List.getElem_cons_succ, List.setIfInBounds_toArray, List.set_cons_zero, List.set_cons_succ]
          refine wpAnyG_take (i := 4) (v := .pointer (some ⟨bt, 1, none⟩)) rfl (by kernel_rfl) (fun _ _ _ h => h) (Or.inl ⟨by kernel_rfl, ?y4x5⟩) hHeld ?r4x5
          case y4x5 => (intro wS hSw; go_simp)
          simp only [Act.put, List.getElem_toArray, List.getElem_cons_zero, List.getElem_cons_succ, List.setIfInBounds_toArray, List.set_cons_zero, List.set_cons_succ]
          refine wpAnyG_take (i := 5) (v := .int .i64 (t.2.1 : Int)) rfl (by kernel_rfl) (fun _ _ _ h => h) (Or.inl ⟨by kernel_rfl, ?y5x6⟩) hHeld ?r5x6
          case y5x6 => (intro wS hSw; obtain ⟨s1, s2, s3⟩ := hSw; go_simp)
          simp only [Act.put, List.getElem_toArray, List.getElem_cons_zero, List.getElem_cons_succ, List.setIfInBounds_toArray, List.set_cons_zero, List.set_cons_succ]
          refine wpAnyG_take (i := 6) (v := .pointer (some ⟨bt, 0, none⟩)) rfl (by kernel_rfl) (fun _ _ _ h => h) (Or.inl ⟨by kernel_rfl, ?y6x7⟩) hHeld ?r6x7
          case y6x7 => (intro wS hSw; go_simp)
          simp only [Act.put, List.getElem_toArray, List.getElem_cons_zero, List.getElem_cons_succ, List.setIfInBounds_toArray, List.set_cons_zero, List.set_cons_succ]
          refine wpAnyG_take (i := 7) (v := .int .i64 (t.1 : Int)) rfl (by kernel_rfl) (fun _ _ _ h => h) (Or.inl ⟨by kernel_rfl, ?y7x8⟩) hHeld ?r7x8
          case y7x8 => (intro wS hSw; obtain ⟨s1, s2, s3⟩ := hSw; go_simp)
          simp only [Act.put, List.getElem_toArray, List.getElem_cons_zero, List.getElem_cons_succ, List.setIfInBounds_toArray, List.set_cons_zero, List.set_cons_succ]
          refine wpAnyG_take (i := 8) (v := .bool false) rfl (by kernel_rfl) (fun _ _ _ h => h) (Or.inl ⟨by kernel_rfl, ?y8x9⟩) hHeld ?r8x9
          case y8x9 => (intro wS hSw; (go_simp; try simp only [a2]))
          simp only [Act.put, List.getElem_toArray, List.getElem_cons_zero, List.getElem_cons_succ, List.setIfInBounds_toArray, List.set_cons_zero, List.set_cons_succ]
          refine wpAnyG_take (i := 9) (v := .bool false) rfl (by kernel_rfl) (fun _ _ _ h => h) (Or.inl ⟨by kernel_rfl, ?y9x10⟩) hHeld ?r9x10
          case y9x10 => (intro wS hSw; go_simp)
          simp only [Act.put, List.getElem_toArray, List.getElem_cons_zero, List.getElem_cons_succ, List.setIfInBounds_toArray, List.set_cons_zero, List.set_cons_succ]
          refine wpAnyG_take (i := 10) (v := .bool false) rfl (by kernel_rfl) (fun _ _ _ h => h) (Or.inl ⟨by kernel_rfl, ?y10x11⟩) hHeld ?r10x11
          case y10x11 => (intro wS hSw; go_simp)
          simp only [Act.put, List.getElem_toArray, List.getElem_cons_zero, List.getElem_cons_succ, List.setIfInBounds_toArray, List.set_cons_zero, List.set_cons_succ]
          refine wpAnyG_take (i := 11) (v := .pointer (some ⟨bt, 2, none⟩)) rfl (by kernel_rfl) (fun _ _ _ h => h) (Or.inl ⟨by kernel_rfl, ?y11x12⟩) hHeld ?r11x12
          case y11x12 => (intro wS hSw; go_simp)
          simp only [Act.put, List.getElem_toArray, List.getElem_cons_zero, List.getElem_cons_succ, List.setIfInBounds_toArray, List.set_cons_zero, List.set_cons_succ]
          refine wpAnyG_take (i := 12) (v := .int .i64 (t.2.2 : Int)) rfl (by kernel_rfl) (fun _ _ _ h => h) (Or.inl ⟨by kernel_rfl, ?y12x13⟩) hHeld ?r12x13
          case y12x13 => (intro wS hSw; obtain ⟨s1, s2, s3⟩ := hSw; go_simp)
          simp only [Act.put, List.getElem_toArray, List.getElem_cons_zero, List.getElem_cons_succ, List.setIfInBounds_toArray, List.set_cons_zero, List.set_cons_succ]
          refine wpAnyG_take (i := 13) (v := .pointer (some ⟨bt, 1, none⟩)) rfl (by kernel_rfl) (fun _ _ _ h => h) (Or.inl ⟨by kernel_rfl, ?y13x14⟩) hHeld ?r13x14
          case y13x14 => (intro wS hSw; go_simp)
          simp only [Act.put, List.getElem_toArray, List.getElem_cons_zero, List.getElem_cons_succ, List.setIfInBounds_toArray, List.set_cons_zero, List.set_cons_succ]
          refine wpAnyG_take (i := 14) (v := .int .i64 (t.2.1 : Int)) rfl (by kernel_rfl) (fun _ _ _ h => h) (Or.inl ⟨by kernel_rfl, ?y14x15⟩) hHeld ?r14x15
          case y14x15 => (intro wS hSw; obtain ⟨s1, s2, s3⟩ := hSw; go_simp)
          simp only [Act.put, List.getElem_toArray, List.getElem_cons_zero, List.getElem_cons_succ, List.setIfInBounds_toArray, List.set_cons_zero, List.set_cons_succ]
          refine wpAnyG_take (i := 15) (v := .bool false) rfl (by kernel_rfl) (fun _ _ _ h => h) (Or.inl ⟨by kernel_rfl, ?y15x16⟩) hHeld ?r15x16
          case y15x16 => (intro wS hSw; (go_simp; try simp only [a3]))
          simp only [Act.put, List.getElem_toArray, List.getElem_cons_zero, List.getElem_cons_succ, List.setIfInBounds_toArray, List.set_cons_zero, List.set_cons_succ]
          refine wpAnyG_take (i := 16) (v := .bool false) rfl (by kernel_rfl) (fun _ _ _ h => h) (Or.inl ⟨by kernel_rfl, ?y16x17⟩) hHeld ?r16x17
          case y16x17 => (intro wS hSw; go_simp)
          simp only [Act.put, List.getElem_toArray, List.getElem_cons_zero, List.getElem_cons_succ, List.setIfInBounds_toArray, List.set_cons_zero, List.set_cons_succ]
          refine wpAnyG_take (i := 17) (v := .bool false) rfl (by kernel_rfl) (fun _ _ _ h => h) (Or.inl ⟨by kernel_rfl, ?y17x18⟩) hHeld ?r17x18
          case y17x18 => (intro wS hSw; go_simp)
          simp only [Act.put, List.getElem_toArray, List.getElem_cons_zero, List.getElem_cons_succ, List.setIfInBounds_toArray, List.set_cons_zero, List.set_cons_succ]
          refine wpAnyG_take (i := 18) (v := .pointer (some ⟨bt, 2, none⟩)) rfl (by kernel_rfl) (fun _ _ _ h => h) (Or.inl ⟨by kernel_rfl, ?y18x19⟩) hHeld ?r18x19
          case y18x19 => (intro wS hSw; go_simp)
          simp only [Act.put, List.getElem_toArray, List.getElem_cons_zero, List.getElem_cons_succ, List.setIfInBounds_toArray, List.set_cons_zero, List.set_cons_succ]
          refine wpAnyG_take (i := 19) (v := .int .i64 (t.2.2 : Int)) rfl (by kernel_rfl) (fun _ _ _ h => h) (Or.inl ⟨by kernel_rfl, ?y19x20⟩) hHeld ?r19x20
          case y19x20 => (intro wS hSw; obtain ⟨s1, s2, s3⟩ := hSw; go_simp)
          simp only [Act.put, List.getElem_toArray, List.getElem_cons_zero, List.getElem_cons_succ, List.setIfInBounds_toArray, List.set_cons_zero, List.set_cons_succ]
          refine wpAnyG_take (i := 20) (v := .int .i64 (m : Int)) rfl (by kernel_rfl) (fun _ _ _ h => h) (Or.inl ⟨by kernel_rfl, ?y20x21⟩) hHeld ?r20x21
          case y20x21 => (intro wS hSw; go_simp)
          simp only [Act.put, List.getElem_toArray, List.getElem_cons_zero, List.getElem_cons_succ, List.setIfInBounds_toArray, List.set_cons_zero, List.set_cons_succ]
          refine wpAnyG_take (i := 21) (v := .bool false) rfl (by kernel_rfl) (fun _ _ _ h => h) (Or.inl ⟨by kernel_rfl, ?y21x22⟩) hHeld ?r21x22
          case y21x22 => (intro wS hSw; (go_simp; try simp only [a4]))
          simp only [Act.put, List.getElem_toArray, List.getElem_cons_zero, List.getElem_cons_succ, List.setIfInBounds_toArray, List.set_cons_zero, List.set_cons_succ]
          refine wpAnyG_take (i := 22) (v := .bool false) rfl (by kernel_rfl) (fun _ _ _ h => h) (Or.inl ⟨by kernel_rfl, ?y22x23⟩) hHeld ?r22x23
          case y22x23 => (intro wS hSw; go_simp)
          simp only [Act.put, List.getElem_toArray, List.getElem_cons_zero, List.getElem_cons_succ, List.setIfInBounds_toArray, List.set_cons_zero, List.set_cons_succ]
          refine wpAnyG_take (i := 23) (v := .bool false) rfl (by kernel_rfl) (fun _ _ _ h => h) (Or.inl ⟨by kernel_rfl, ?y23x24⟩) hHeld ?r23x24
          case y23x24 => (intro wS hSw; go_simp)
          simp only [Act.put, List.getElem_toArray, List.getElem_cons_zero, List.getElem_cons_succ, List.setIfInBounds_toArray, List.set_cons_zero, List.set_cons_succ]
          refine wpAnyG_take (i := 24) (v := .agg #[.int .i64 (t.1 : Int), .int .i64 (t.2.1 : Int), .int .i64 (t.2.2 : Int)]) rfl (by kernel_rfl) (fun _ _ _ h => h) (Or.inl ⟨by kernel_rfl, ?y24x25⟩) hHeld ?r24x25
          case y24x25 => (intro wS hSw; obtain ⟨s1, s2, s3⟩ := hSw; go_simp)
          simp only [Act.put, List.getElem_toArray, List.getElem_cons_zero, List.getElem_cons_succ, List.setIfInBounds_toArray, List.set_cons_zero, List.set_cons_succ]
          refine wpAnyG_one (i := 25) rfl (by kernel_rfl) (fun K hK => ?_)
          rw [if_pos (by kernel_rfl)]
          go_simp
          refine (HIs.out _).mono ?_
          rintro e V1 ⟨rfl, kV⟩
          have kV' : Below Wb.heap.size Wb V1 := (Below.refl _ _).drew.trans (kV.mono (by simp))
          have HB1 : Hid (Mw w V1 g L ∧ Cl bt (tl3 t) 42 V1) := ⟨HB.out.1.below kV', HB.out.2.below kV'⟩
          clear hHeld
          have hHeld : S3 bt t V1 := HS.out _ kV'
          clear kV
          refine hK.out _ _ hHeld ?_
          clear hK K
          refine wpAnyG_take (i := 26) (v := .bool false) rfl (by kernel_rfl) (fun _ _ _ h => h) (Or.inl ⟨by kernel_rfl, ?y26x26⟩) hHeld ?r26x26
          case y26x26 => (intro wS hSw; go_simp)
          simp only [Act.put, List.getElem_toArray, List.getElem_cons_zero, List.getElem_cons_succ, List.setIfInBounds_toArray, List.set_cons_zero, List.set_cons_succ]
          refine wpAnyG_take (i := 27) (v := .bool false) rfl (by kernel_rfl) (fun _ _ _ h => h) (Or.inl ⟨by kernel_rfl, ?y27x27⟩) hHeld ?r27x27
          case y27x27 => (intro wS hSw; go_simp)
          simp only [Act.put, List.getElem_toArray, List.getElem_cons_zero, List.getElem_cons_succ, List.setIfInBounds_toArray, List.set_cons_zero, List.set_cons_succ]
          refine wpAnyG_take (i := 28) (v := .bool false) rfl (by kernel_rfl) (fun _ _ _ h => h) (Or.inl ⟨by kernel_rfl, ?y28x28⟩) hHeld ?r28x28
          case y28x28 => (intro wS hSw; go_simp)
          simp only [Act.put, List.getElem_toArray, List.getElem_cons_zero, List.getElem_cons_succ, List.setIfInBounds_toArray, List.set_cons_zero, List.set_cons_succ]
          refine wpAnyG_take (i := 29) (v := .int .i64 0) rfl (by kernel_rfl) (fun _ _ _ h => h) (Or.inl ⟨by kernel_rfl, ?y29x29⟩) hHeld ?r29x29
          case y29x29 => (intro wS hSw; go_simp)
          simp only [Act.put, List.getElem_toArray, List.getElem_cons_zero, List.getElem_cons_succ, List.setIfInBounds_toArray, List.set_cons_zero, List.set_cons_succ]
          refine wpAnyG_take (i := 30) (v := .bool false) rfl (by kernel_rfl) (fun _ _ _ h => h) (Or.inl ⟨by kernel_rfl, ?y30x30⟩) hHeld ?r30x30
          case y30x30 => (intro wS hSw; go_simp)
          simp only [Act.put, List.getElem_toArray, List.getElem_cons_zero, List.getElem_cons_succ, List.setIfInBounds_toArray, List.set_cons_zero, List.set_cons_succ]
          refine wpAnyG_take (i := 31) (v := .bool false) rfl (by kernel_rfl) (fun _ _ _ h => h) (Or.inl ⟨by kernel_rfl, ?y31x31⟩) hHeld ?r31x31
          case y31x31 => (intro wS hSw; go_simp)
          simp only [Act.put, List.getElem_toArray, List.getElem_cons_zero, List.getElem_cons_succ, List.setIfInBounds_toArray, List.set_cons_zero, List.set_cons_succ]
          refine wpAnyG_take (i := 32) (v := undef) rfl (by kernel_rfl) (fun _ _ _ h => h) (Or.inr ⟨by kernel_rfl, rfl⟩) hHeld ?_
          simp only [Act.put, List.getElem_toArray, List.getElem_cons_zero, List.getElem_cons_succ, List.setIfInBounds_toArray, List.set_cons_zero, List.set_cons_succ]
          refine wpAnyG_take (i := 33) (v := undef) rfl (by kernel_rfl) (fun _ _ _ h => h) (Or.inr ⟨by kernel_rfl, rfl⟩) hHeld ?_
          simp only [Act.put, List.getElem_toArray, List.getElem_cons_zero, List.getElem_cons_succ, List.setIfInBounds_toArray, List.set_cons_zero, List.set_cons_succ]
          refine wpAnyG_take (i := 34) (v := undef) rfl (by kernel_rfl) (fun _ _ _ h => h) (Or.inr ⟨by kernel_rfl, rfl⟩) hHeld ?_
          simp only [Act.put, List.getElem_toArray, List.getElem_cons_zero, List.getElem_cons_succ, List.setIfInBounds_toArray, List.set_cons_zero, List.set_cons_succ]
          refine wpAnyG_take (i := 35) (v := undef) rfl (by kernel_rfl) (fun _ _ _ h => h) (Or.inr ⟨by kernel_rfl, rfl⟩) hHeld ?_
          simp only [Act.put, List.getElem_toArray, List.getElem_cons_zero, List.getElem_cons_succ, List.setIfInBounds_toArray, List.set_cons_zero, List.set_cons_succ]
          refine wpAnyG_take (i := 36) (v := undef) rfl (by kernel_rfl) (fun _ _ _ h => h) (Or.inr ⟨by kernel_rfl, rfl⟩) hHeld ?_
          simp only [Act.put, List.getElem_toArray, List.getElem_cons_zero, List.getElem_cons_succ, List.setIfInBounds_toArray, List.set_cons_zero, List.set_cons_succ]
          refine wpAnyG_take (i := 37) (v := undef) rfl (by kernel_rfl) (fun _ _ _ h => h) (Or.inr ⟨by kernel_rfl, rfl⟩) hHeld ?_
          simp only [Act.put, List.getElem_toArray, List.getElem_cons_zero, List.getElem_cons_succ, List.setIfInBounds_toArray, List.set_cons_zero, List.set_cons_succ]
          refine wpAnyG_take (i := 38) (v := undef) rfl (by kernel_rfl) (fun _ _ _ h => h) (Or.inr ⟨by kernel_rfl, rfl⟩) hHeld ?_
          simp only [Act.put, List.getElem_toArray, List.getElem_cons_zero, List.getElem_cons_succ, List.setIfInBounds_toArray, List.set_cons_zero, List.set_cons_succ]
          refine wpAnyG_take (i := 39) (v := undef) rfl (by kernel_rfl) (fun _ _ _ h => h) (Or.inr ⟨by kernel_rfl, rfl⟩) hHeld ?_
          simp only [Act.put, List.getElem_toArray, List.getElem_cons_zero, List.getElem_cons_succ, List.setIfInBounds_toArray, List.set_cons_zero, List.set_cons_succ]
          refine wpAnyG_take (i := 40) (v := .bool false) rfl (by kernel_rfl) (fun _ _ _ h => h) (Or.inl ⟨by kernel_rfl, ?y40x32⟩) hHeld ?r40x32
          case y40x32 => (intro wS hSw; go_simp)
          simp only [Act.put, List.getElem_toArray, List.getElem_cons_zero, List.getElem_cons_succ, List.setIfInBounds_toArray, List.set_cons_zero, List.set_cons_succ]
          refine wpAnyG_last (i := 41) rfl (by kernel_rfl) (by kernel_rfl) (fun K hK => ?_)
          go_simp
          refine hK.out _ _ ?_
          clear hK K
          refine wpAnyG_done (by kernel_rfl) ?_ _
          go_wp2
          go_meet
          exact ⟨rfl, HB1.out⟩
        · obtain ⟨p, hp⟩ : ∃ p, i = p + 1 := ⟨i - 1, by omega⟩
          have hpl : p < L.length := by omega
          obtain ⟨u, hu⟩ : ∃ u, L[p]'hpl = u := ⟨_, rfl⟩
          have HS : Hid (∀ W', Below Wb.heap.size Wb W' → S6 bt g p t u W') := fun W' k => by
            have a := tl3_c (HB.out.2.below k)
            have b := (HB.out.1.below k).at hpl hu
            exact ⟨a.1, a.2.1, a.2.2, b.1, b.2.1, b.2.2⟩
          have HAh : Hid (∀ w, Calls Try.prog 19 #[.agg #[.int .i64 (u.1 : Int), .int .i64 (u.2.1 : Int), .int .i64 (u.2.2 : Int)], .agg #[.int .i64 (t.1 : Int), .int .i64 (t.2.1 : Int), .int .i64 (t.2.2 : Int)]] w fun e w' => e = .returned (.bool true) ∧ Below w.heap.size w w') := fun w => ahead_lt u t w (by
            have hlt : MV.tz (L[p]'hpl) < MV.tz (L[i]'hil) := by
              have hLL := HL.out
              subst hLL
              exact MV.um_lt hpl hil (by omega)
            rw [hu, HT.out] at hlt
            exact hlt)
          have b0 : decide (0 < (i : Int)) = true := decide_eq_true (by omega)
          have hip : (i : Int) - 1 = (p : Int) := by omega
          have hwp : IntKind.i64.wrap (p : Int) = (p : Int) := by rw [IntKind.wrap_i64]; omega
          have hpN : (p : Int) < (N : Int) := by omega
          have hpn0 : (0 : Int) ≤ (p : Int) := by omega
          clear hp hu
          refine wp_region_G (S6 bt g p t u) 41 (by kernel_rfl) (HS.out _ (Below.refl _ _).drew) (fun hHeld => ?_)
          refine wpAnyG_take (i := 0) (v := ?v0x33) rfl (by kernel_rfl) (fun _ _ _ h => h) (Or.inl ⟨by rfl, ?y0x33⟩) hHeld ?r0x33
          case y0x33 => (intro wS hSw; obtain ⟨s1, s2, s3, s4, s5, s6⟩ := hSw; go_simp; try with_reducible rfl)
          simp only [Act.put, List.getElem_toArray, List.getElem_cons_zero, List.getElem_cons_succ, List.setIfInBounds_toArray, List.set_cons_zero, List.set_cons_succ]
          refine wpAnyG_take (i := 1) (v := ?v1x34) rfl (by kernel_rfl) (fun _ _ _ h => h) (Or.inl ⟨by rfl, ?y1x34⟩) hHeld ?r1x34
          case y1x34 => (intro wS hSw; obtain ⟨s1, s2, s3, s4, s5, s6⟩ := hSw; go_simp; try with_reducible rfl)
          simp only [Act.put, List.getElem_toArray, List.getElem_cons_zero, List.getElem_cons_succ, List.setIfInBounds_toArray, List.set_cons_zero, List.set_cons_succ]
          refine wpAnyG_take (i := 2) (v := .bool false) rfl (by kernel_rfl) (fun _ _ _ h => h) (Or.inl ⟨by kernel_rfl, ?y2x35⟩) hHeld ?r2x35
          case y2x35 => (intro wS hSw; (go_simp; try simp only [a1]))
          simp only [Act.put, List.getElem_toArray, List.getElem_cons_zero, List.getElem_cons_succ, List.setIfInBounds_toArray, List.set_cons_zero, List.set_cons_succ]
          refine wpAnyG_take (i := 3) (v := .bool false) rfl (by kernel_rfl) (fun _ _ _ h => h) (Or.inl ⟨by kernel_rfl, ?y3x36⟩) hHeld ?r3x36
          case y3x36 => (intro wS hSw; go_simp)
          simp only [Act.put, List.getElem_toArray, List.getElem_cons_zero, List.getElem_cons_succ, List.setIfInBounds_toArray, List.set_cons_zero, List.set_cons_succ]
          refine wpAnyG_take (i := 4) (v := .pointer (some ⟨bt, 1, none⟩)) rfl (by kernel_rfl) (fun _ _ _ h => h) (Or.inl ⟨by kernel_rfl, ?y4x37⟩) hHeld ?r4x37
          case y4x37 => (intro wS hSw; go_simp)
          simp only [Act.put, List.getElem_toArray, List.getElem_cons_zero, List.getElem_cons_succ, List.setIfInBounds_toArray, List.set_cons_zero, List.set_cons_succ]
          refine wpAnyG_take (i := 5) (v := .int .i64 (t.2.1 : Int)) rfl (by kernel_rfl) (fun _ _ _ h => h) (Or.inl ⟨by kernel_rfl, ?y5x38⟩) hHeld ?r5x38
          case y5x38 => (intro wS hSw; obtain ⟨s1, s2, s3, s4, s5, s6⟩ := hSw; go_simp)
          simp only [Act.put, List.getElem_toArray, List.getElem_cons_zero, List.getElem_cons_succ, List.setIfInBounds_toArray, List.set_cons_zero, List.set_cons_succ]
          refine wpAnyG_take (i := 6) (v := .pointer (some ⟨bt, 0, none⟩)) rfl (by kernel_rfl) (fun _ _ _ h => h) (Or.inl ⟨by kernel_rfl, ?y6x39⟩) hHeld ?r6x39
          case y6x39 => (intro wS hSw; go_simp)
          simp only [Act.put, List.getElem_toArray, List.getElem_cons_zero, List.getElem_cons_succ, List.setIfInBounds_toArray, List.set_cons_zero, List.set_cons_succ]
          refine wpAnyG_take (i := 7) (v := .int .i64 (t.1 : Int)) rfl (by kernel_rfl) (fun _ _ _ h => h) (Or.inl ⟨by kernel_rfl, ?y7x40⟩) hHeld ?r7x40
          case y7x40 => (intro wS hSw; obtain ⟨s1, s2, s3, s4, s5, s6⟩ := hSw; go_simp)
          simp only [Act.put, List.getElem_toArray, List.getElem_cons_zero, List.getElem_cons_succ, List.setIfInBounds_toArray, List.set_cons_zero, List.set_cons_succ]
          refine wpAnyG_take (i := 8) (v := .bool false) rfl (by kernel_rfl) (fun _ _ _ h => h) (Or.inl ⟨by kernel_rfl, ?y8x41⟩) hHeld ?r8x41
          case y8x41 => (intro wS hSw; (go_simp; try simp only [a2]))
          simp only [Act.put, List.getElem_toArray, List.getElem_cons_zero, List.getElem_cons_succ, List.setIfInBounds_toArray, List.set_cons_zero, List.set_cons_succ]
          refine wpAnyG_take (i := 9) (v := .bool false) rfl (by kernel_rfl) (fun _ _ _ h => h) (Or.inl ⟨by kernel_rfl, ?y9x42⟩) hHeld ?r9x42
          case y9x42 => (intro wS hSw; go_simp)
          simp only [Act.put, List.getElem_toArray, List.getElem_cons_zero, List.getElem_cons_succ, List.setIfInBounds_toArray, List.set_cons_zero, List.set_cons_succ]
          refine wpAnyG_take (i := 10) (v := .bool false) rfl (by kernel_rfl) (fun _ _ _ h => h) (Or.inl ⟨by kernel_rfl, ?y10x43⟩) hHeld ?r10x43
          case y10x43 => (intro wS hSw; go_simp)
          simp only [Act.put, List.getElem_toArray, List.getElem_cons_zero, List.getElem_cons_succ, List.setIfInBounds_toArray, List.set_cons_zero, List.set_cons_succ]
          refine wpAnyG_take (i := 11) (v := .pointer (some ⟨bt, 2, none⟩)) rfl (by kernel_rfl) (fun _ _ _ h => h) (Or.inl ⟨by kernel_rfl, ?y11x44⟩) hHeld ?r11x44
          case y11x44 => (intro wS hSw; go_simp)
          simp only [Act.put, List.getElem_toArray, List.getElem_cons_zero, List.getElem_cons_succ, List.setIfInBounds_toArray, List.set_cons_zero, List.set_cons_succ]
          refine wpAnyG_take (i := 12) (v := .int .i64 (t.2.2 : Int)) rfl (by kernel_rfl) (fun _ _ _ h => h) (Or.inl ⟨by kernel_rfl, ?y12x45⟩) hHeld ?r12x45
          case y12x45 => (intro wS hSw; obtain ⟨s1, s2, s3, s4, s5, s6⟩ := hSw; go_simp)
          simp only [Act.put, List.getElem_toArray, List.getElem_cons_zero, List.getElem_cons_succ, List.setIfInBounds_toArray, List.set_cons_zero, List.set_cons_succ]
          refine wpAnyG_take (i := 13) (v := .pointer (some ⟨bt, 1, none⟩)) rfl (by kernel_rfl) (fun _ _ _ h => h) (Or.inl ⟨by kernel_rfl, ?y13x46⟩) hHeld ?r13x46
          case y13x46 => (intro wS hSw; go_simp)
          simp only [Act.put, List.getElem_toArray, List.getElem_cons_zero, List.getElem_cons_succ, List.setIfInBounds_toArray, List.set_cons_zero, List.set_cons_succ]
          refine wpAnyG_take (i := 14) (v := .int .i64 (t.2.1 : Int)) rfl (by kernel_rfl) (fun _ _ _ h => h) (Or.inl ⟨by kernel_rfl, ?y14x47⟩) hHeld ?r14x47
          case y14x47 => (intro wS hSw; obtain ⟨s1, s2, s3, s4, s5, s6⟩ := hSw; go_simp)
          simp only [Act.put, List.getElem_toArray, List.getElem_cons_zero, List.getElem_cons_succ, List.setIfInBounds_toArray, List.set_cons_zero, List.set_cons_succ]
          refine wpAnyG_take (i := 15) (v := .bool false) rfl (by kernel_rfl) (fun _ _ _ h => h) (Or.inl ⟨by kernel_rfl, ?y15x48⟩) hHeld ?r15x48
          case y15x48 => (intro wS hSw; (go_simp; try simp only [a3]))
          simp only [Act.put, List.getElem_toArray, List.getElem_cons_zero, List.getElem_cons_succ, List.setIfInBounds_toArray, List.set_cons_zero, List.set_cons_succ]
          refine wpAnyG_take (i := 16) (v := .bool false) rfl (by kernel_rfl) (fun _ _ _ h => h) (Or.inl ⟨by kernel_rfl, ?y16x49⟩) hHeld ?r16x49
          case y16x49 => (intro wS hSw; go_simp)
          simp only [Act.put, List.getElem_toArray, List.getElem_cons_zero, List.getElem_cons_succ, List.setIfInBounds_toArray, List.set_cons_zero, List.set_cons_succ]
          refine wpAnyG_take (i := 17) (v := .bool false) rfl (by kernel_rfl) (fun _ _ _ h => h) (Or.inl ⟨by kernel_rfl, ?y17x50⟩) hHeld ?r17x50
          case y17x50 => (intro wS hSw; go_simp)
          simp only [Act.put, List.getElem_toArray, List.getElem_cons_zero, List.getElem_cons_succ, List.setIfInBounds_toArray, List.set_cons_zero, List.set_cons_succ]
          refine wpAnyG_take (i := 18) (v := .pointer (some ⟨bt, 2, none⟩)) rfl (by kernel_rfl) (fun _ _ _ h => h) (Or.inl ⟨by kernel_rfl, ?y18x51⟩) hHeld ?r18x51
          case y18x51 => (intro wS hSw; go_simp)
          simp only [Act.put, List.getElem_toArray, List.getElem_cons_zero, List.getElem_cons_succ, List.setIfInBounds_toArray, List.set_cons_zero, List.set_cons_succ]
          refine wpAnyG_take (i := 19) (v := .int .i64 (t.2.2 : Int)) rfl (by kernel_rfl) (fun _ _ _ h => h) (Or.inl ⟨by kernel_rfl, ?y19x52⟩) hHeld ?r19x52
          case y19x52 => (intro wS hSw; obtain ⟨s1, s2, s3, s4, s5, s6⟩ := hSw; go_simp)
          simp only [Act.put, List.getElem_toArray, List.getElem_cons_zero, List.getElem_cons_succ, List.setIfInBounds_toArray, List.set_cons_zero, List.set_cons_succ]
          refine wpAnyG_take (i := 20) (v := .int .i64 (m : Int)) rfl (by kernel_rfl) (fun _ _ _ h => h) (Or.inl ⟨by kernel_rfl, ?y20x53⟩) hHeld ?r20x53
          case y20x53 => (intro wS hSw; go_simp)
          simp only [Act.put, List.getElem_toArray, List.getElem_cons_zero, List.getElem_cons_succ, List.setIfInBounds_toArray, List.set_cons_zero, List.set_cons_succ]
          refine wpAnyG_take (i := 21) (v := .bool false) rfl (by kernel_rfl) (fun _ _ _ h => h) (Or.inl ⟨by kernel_rfl, ?y21x54⟩) hHeld ?r21x54
          case y21x54 => (intro wS hSw; (go_simp; try simp only [a4]))
          simp only [Act.put, List.getElem_toArray, List.getElem_cons_zero, List.getElem_cons_succ, List.setIfInBounds_toArray, List.set_cons_zero, List.set_cons_succ]
          refine wpAnyG_take (i := 22) (v := .bool false) rfl (by kernel_rfl) (fun _ _ _ h => h) (Or.inl ⟨by kernel_rfl, ?y22x55⟩) hHeld ?r22x55
          case y22x55 => (intro wS hSw; go_simp)
          simp only [Act.put, List.getElem_toArray, List.getElem_cons_zero, List.getElem_cons_succ, List.setIfInBounds_toArray, List.set_cons_zero, List.set_cons_succ]
          refine wpAnyG_take (i := 23) (v := .bool false) rfl (by kernel_rfl) (fun _ _ _ h => h) (Or.inl ⟨by kernel_rfl, ?y23x56⟩) hHeld ?r23x56
          case y23x56 => (intro wS hSw; go_simp)
          simp only [Act.put, List.getElem_toArray, List.getElem_cons_zero, List.getElem_cons_succ, List.setIfInBounds_toArray, List.set_cons_zero, List.set_cons_succ]
          refine wpAnyG_take (i := 24) (v := .agg #[.int .i64 (t.1 : Int), .int .i64 (t.2.1 : Int), .int .i64 (t.2.2 : Int)]) rfl (by kernel_rfl) (fun _ _ _ h => h) (Or.inl ⟨by kernel_rfl, ?y24x57⟩) hHeld ?r24x57
          case y24x57 => (intro wS hSw; obtain ⟨s1, s2, s3, s4, s5, s6⟩ := hSw; go_simp)
          simp only [Act.put, List.getElem_toArray, List.getElem_cons_zero, List.getElem_cons_succ, List.setIfInBounds_toArray, List.set_cons_zero, List.set_cons_succ]
          refine wpAnyG_one (i := 25) rfl (by kernel_rfl) (fun K hK => ?_)
          rw [if_pos (by kernel_rfl)]
          go_simp
          refine (HIs.out _).mono ?_
          rintro e V1 ⟨rfl, kV⟩
          have kV' : Below Wb.heap.size Wb V1 := (Below.refl _ _).drew.trans (kV.mono (by simp))
          have HB1 : Hid (Mw w V1 g L ∧ Cl bt (tl3 t) 42 V1) := ⟨HB.out.1.below kV', HB.out.2.below kV'⟩
          clear hHeld
          have hHeld : S6 bt g p t u V1 := HS.out _ kV'
          clear kV
          refine hK.out _ _ hHeld ?_
          clear hK K
          refine wpAnyG_take (i := 26) (v := .bool false) rfl (by kernel_rfl) (fun _ _ _ h => h) (Or.inl ⟨by kernel_rfl, ?y26x58⟩) hHeld ?r26x58
          case y26x58 => (intro wS hSw; go_simp)
          simp only [Act.put, List.getElem_toArray, List.getElem_cons_zero, List.getElem_cons_succ, List.setIfInBounds_toArray, List.set_cons_zero, List.set_cons_succ]
          refine wpAnyG_take (i := 27) (v := .bool false) rfl (by kernel_rfl) (fun _ _ _ h => h) (Or.inl ⟨by kernel_rfl, ?y27x59⟩) hHeld ?r27x59
          case y27x59 => (intro wS hSw; go_simp)
          simp only [Act.put, List.getElem_toArray, List.getElem_cons_zero, List.getElem_cons_succ, List.setIfInBounds_toArray, List.set_cons_zero, List.set_cons_succ]
          refine wpAnyG_take (i := 28) (v := .bool false) rfl (by kernel_rfl) (fun _ _ _ h => h) (Or.inl ⟨by kernel_rfl, ?y28x60⟩) hHeld ?r28x60
          case y28x60 => (intro wS hSw; go_simp)
          simp only [Act.put, List.getElem_toArray, List.getElem_cons_zero, List.getElem_cons_succ, List.setIfInBounds_toArray, List.set_cons_zero, List.set_cons_succ]
          refine wpAnyG_take (i := 29) (v := .int .i64 (i : Int)) rfl (by kernel_rfl) (fun _ _ _ h => h) (Or.inl ⟨by kernel_rfl, ?y29x61⟩) hHeld ?r29x61
          case y29x61 => (intro wS hSw; go_simp)
          simp only [Act.put, List.getElem_toArray, List.getElem_cons_zero, List.getElem_cons_succ, List.setIfInBounds_toArray, List.set_cons_zero, List.set_cons_succ]
          refine wpAnyG_take (i := 30) (v := .bool true) rfl (by kernel_rfl) (fun _ _ _ h => h) (Or.inl ⟨by kernel_rfl, ?y30x62⟩) hHeld ?r30x62
          case y30x62 => (intro wS hSw; (go_simp; first | done | simp only [b0] | omega))
          simp only [Act.put, List.getElem_toArray, List.getElem_cons_zero, List.getElem_cons_succ, List.setIfInBounds_toArray, List.set_cons_zero, List.set_cons_succ]
          refine wpAnyG_take (i := 31) (v := .bool true) rfl (by kernel_rfl) (fun _ _ _ h => h) (Or.inl ⟨by kernel_rfl, ?y31x63⟩) hHeld ?r31x63
          case y31x63 => (intro wS hSw; go_simp)
          simp only [Act.put, List.getElem_toArray, List.getElem_cons_zero, List.getElem_cons_succ, List.setIfInBounds_toArray, List.set_cons_zero, List.set_cons_succ]
          refine wpAnyG_take (i := 32) (v := .slice (some ⟨g, 0, none⟩) N cc) rfl (by kernel_rfl) (fun _ _ _ h => h) (Or.inl ⟨by kernel_rfl, ?y32x64⟩) hHeld ?r32x64
          case y32x64 => (intro wS hSw; go_simp)
          simp only [Act.put, List.getElem_toArray, List.getElem_cons_zero, List.getElem_cons_succ, List.setIfInBounds_toArray, List.set_cons_zero, List.set_cons_succ]
          refine wpAnyG_take (i := 33) (v := .int .i64 (i : Int)) rfl (by kernel_rfl) (fun _ _ _ h => h) (Or.inl ⟨by kernel_rfl, ?y33x65⟩) hHeld ?r33x65
          case y33x65 => (intro wS hSw; go_simp)
          simp only [Act.put, List.getElem_toArray, List.getElem_cons_zero, List.getElem_cons_succ, List.setIfInBounds_toArray, List.set_cons_zero, List.set_cons_succ]
          refine wpAnyG_take (i := 34) (v := .int .i64 (p : Int)) rfl (by kernel_rfl) (fun _ _ _ h => h) (Or.inl ⟨by kernel_rfl, ?y34x66⟩) hHeld ?r34x66
          case y34x66 => (intro wS hSw; (go_simp; try simp only [hip, hwp]))
          simp only [Act.put, List.getElem_toArray, List.getElem_cons_zero, List.getElem_cons_succ, List.setIfInBounds_toArray, List.set_cons_zero, List.set_cons_succ]
          refine wpAnyG_take (i := 35) (v := .pointer (some ⟨g, p * 3, none⟩)) rfl (by kernel_rfl) (fun _ _ _ h => h) (Or.inl ⟨by kernel_rfl, ?y35x67⟩) hHeld ?r35x67
          case y35x67 => (intro wS hSw; (go_simp; try simp only [hpN, hpn0, Int.toNat_natCast, if_true]))
          simp only [Act.put, List.getElem_toArray, List.getElem_cons_zero, List.getElem_cons_succ, List.setIfInBounds_toArray, List.set_cons_zero, List.set_cons_succ]
          refine wpAnyG_take (i := 36) (v := .agg #[.int .i64 (u.1 : Int), .int .i64 (u.2.1 : Int), .int .i64 (u.2.2 : Int)]) rfl (by kernel_rfl) (fun _ _ _ h => h) (Or.inl ⟨by kernel_rfl, ?y36x68⟩) hHeld ?r36x68
          case y36x68 => (intro wS hSw; obtain ⟨s1, s2, s3, s4, s5, s6⟩ := hSw; go_simp)
          simp only [Act.put, List.getElem_toArray, List.getElem_cons_zero, List.getElem_cons_succ, List.setIfInBounds_toArray, List.set_cons_zero, List.set_cons_succ]
          refine wpAnyG_take (i := 37) (v := .agg #[.int .i64 (t.1 : Int), .int .i64 (t.2.1 : Int), .int .i64 (t.2.2 : Int)]) rfl (by kernel_rfl) (fun _ _ _ h => h) (Or.inl ⟨by kernel_rfl, ?y37x69⟩) hHeld ?r37x69
          case y37x69 => (intro wS hSw; obtain ⟨s1, s2, s3, s4, s5, s6⟩ := hSw; go_simp)
          simp only [Act.put, List.getElem_toArray, List.getElem_cons_zero, List.getElem_cons_succ, List.setIfInBounds_toArray, List.set_cons_zero, List.set_cons_succ]
          refine wpAnyG_one (i := 38) rfl (by kernel_rfl) (fun K hK => ?_)
          rw [if_pos (by kernel_rfl)]
          go_simp
          refine (HAh.out _).mono ?_
          rintro e V2 ⟨rfl, kV2⟩
          have kV2' : Below Wb.heap.size Wb V2 := kV'.trans (kV2.mono kV'.size)
          have HB2 : Hid (Mw w V2 g L ∧ Cl bt (tl3 t) 42 V2) := ⟨HB.out.1.below kV2', HB.out.2.below kV2'⟩
          clear hHeld
          have hHeld : S6 bt g p t u V2 := HS.out _ kV2'
          refine hK.out _ _ hHeld ?_
          clear hK K
          refine wpAnyG_take (i := 39) (v := .bool false) rfl (by kernel_rfl) (fun _ _ _ h => h) (Or.inl ⟨by kernel_rfl, ?y39x70⟩) hHeld ?r39x70
          case y39x70 => (intro wS hSw; go_simp)
          simp only [Act.put, List.getElem_toArray, List.getElem_cons_zero, List.getElem_cons_succ, List.setIfInBounds_toArray, List.set_cons_zero, List.set_cons_succ]
          refine wpAnyG_take (i := 40) (v := .bool false) rfl (by kernel_rfl) (fun _ _ _ h => h) (Or.inl ⟨by kernel_rfl, ?y40x71⟩) hHeld ?r40x71
          case y40x71 => (intro wS hSw; go_simp)
          simp only [Act.put, List.getElem_toArray, List.getElem_cons_zero, List.getElem_cons_succ, List.setIfInBounds_toArray, List.set_cons_zero, List.set_cons_succ]
          refine wpAnyG_last (i := 41) rfl (by kernel_rfl) (by kernel_rfl) (fun K hK => ?_)
          go_simp
          refine hK.out _ _ ?_
          clear hK K
          refine wpAnyG_done (by kernel_rfl) ?_ _
          go_wp2
          go_meet
          exact ⟨rfl, HB2.out⟩
      case rest =>
        clear HB
        obtain ⟨rfl, HB⟩ := hcut
        go_wp2
        go_loopg [7] 2 (fun gk kv wx => ∃ k : Nat, kv = .int .i64 k ∧ Hid (gk = 2 - k ∧ k ≤ 2 ∧ Mw w wx g L ∧ Cl bt (tl3 t) 42 wx))
        case atStart => exact ⟨0, rfl, rfl, by omega, HB.out⟩
        case round =>
          clear HB
          obtain ⟨k, rfl, HR⟩ := hrel
          obtain ⟨h1, h2, h3, h4⟩ := HR.out
          have HKk : Hid (gk = 2 - k) := h1
          have HB : Hid (Mw w wr g L ∧ Cl bt (tl3 t) 42 wr) := ⟨h3, h4⟩
          have sb := tl3_c h4
          clear HR h1 h3 h4
          by_cases hk : k < 2
          · have tk : decide ((k : Int) < 2) = true := decide_eq_true (by omega)
            obtain ⟨ak, ha⟩ : ∃ ak, MV.tk t k = ak := ⟨_, rfl⟩
            obtain ⟨b, hb⟩ : ∃ b, MV.tk t (1 - k) = b := ⟨_, rfl⟩
            obtain ⟨z, hz⟩ : ∃ z, t.2.2 = z := ⟨_, rfl⟩
            have hla := MV.tk_le HTm.out.2 k
            have hlb := MV.tk_le HTm.out.2 (1 - k)
            have hge := MV.nb_ge HTm.out.2 k
            rw [ha, hz] at hla
            rw [hb, hz] at hlb
            rw [ha, hb, hz] at hge
            have ca : (tl3 t)[k]? = some (.int .i64 (ak : Int)) := by
              rw [← ha]
              match k, hk with
              | 0, _ => rfl
              | 1, _ => rfl
            have cb : (tl3 t)[1 - k]? = some (.int .i64 (b : Int)) := by
              rw [← hb]
              match k, hk with
              | 0, _ => rfl
              | 1, _ => rfl
            have cz : (tl3 t)[2]? = some (.int .i64 (z : Int)) := by rw [← hz]; rfl
            have HC : Hid ((tl3 t)[k]? = some (.int .i64 (ak : Int)) ∧ (tl3 t)[1 - k]? = some (.int .i64 (b : Int)) ∧ (tl3 t)[2]? = some (.int .i64 (z : Int))) := ⟨ca, cb, cz⟩
            have HE : Hid (MV.tk t k = ak ∧ MV.tk t (1 - k) = b ∧ t.2.2 = z ∧ z + b ≤ 3 * (ak * z) ∧ 1 ≤ ak ∧ ak ≤ z ∧ 1 ≤ b ∧ b ≤ z) := ⟨ha, hb, hz, hge, hla.1, hla.2, hlb.1, hlb.2⟩
            have hzm : z ≤ 1000000000000000000 := by have := HMb.out; omega
            have ham : ak ≤ 1000000000000000000 := by omega
            have hbm : b ≤ 1000000000000000000 := by omega
            have hk3 : (k : Int) < 3 := by omega
            have d0 : wr.cell? ⟨bt, k, none⟩ = some (.int .i64 (ak : Int)) := (HB.out.2.cell k).trans ca
            have d1 : wr.cell? ⟨bt, 2, none⟩ = some (.int .i64 (z : Int)) := (HB.out.2.cell 2).trans cz
            clear ha hb hz hla hlb hge ca cb cz sb
            go_wp2_with fail
            have HS : Hid (∀ W', Below wr.heap.size wr W' → W'.cell? ⟨bt, k, none⟩ = some (.int .i64 (ak : Int)) ∧ W'.cell? ⟨bt, 2, none⟩ = some (.int .i64 (z : Int))) := fun W' kb => ⟨((HB.out.2.below kb).cell k).trans HC.out.1, ((HB.out.2.below kb).cell 2).trans HC.out.2.2⟩
            refine wp_region_G (fun W' => W'.cell? ⟨bt, k, none⟩ = some (.int .i64 (ak : Int)) ∧ W'.cell? ⟨bt, 2, none⟩ = some (.int .i64 (z : Int))) 12 (by kernel_rfl) (HS.out _ (Below.refl _ _).drew) (fun hHeld => ?_)
            clear d0 d1
            refine wpAnyG_take (i := 3) (v := ?v3x72) rfl (by kernel_rfl) (fun _ _ _ h => h) (Or.inl ⟨by rfl, ?y3x72⟩) hHeld ?r3x72
            case y3x72 => (intro wS hSw; obtain ⟨s1, s2⟩ := hSw; go_simp; try with_reducible rfl)
            simp only [Act.put, List.getElem_toArray, List.getElem_cons_zero, List.getElem_cons_succ, List.setIfInBounds_toArray, List.set_cons_zero, List.set_cons_succ]
            refine wpAnyG_take (i := 4) (v := ?v4x73) rfl (by kernel_rfl) (fun _ _ _ h => h) (Or.inl ⟨by rfl, ?y4x73⟩) hHeld ?r4x73
            case y4x73 => (intro wS hSw; obtain ⟨s1, s2⟩ := hSw; go_simp; try with_reducible rfl)
            simp only [Act.put, List.getElem_toArray, List.getElem_cons_zero, List.getElem_cons_succ, List.setIfInBounds_toArray, List.set_cons_zero, List.set_cons_succ]
            refine wpAnyG_take (i := 5) (v := ?v5x74) rfl (by kernel_rfl) (fun _ _ _ h => h) (Or.inl ⟨by rfl, ?y5x74⟩) hHeld ?r5x74
            case y5x74 => (intro wS hSw; obtain ⟨s1, s2⟩ := hSw; go_simp; try with_reducible rfl)
            simp only [Act.put, List.getElem_toArray, List.getElem_cons_zero, List.getElem_cons_succ, List.setIfInBounds_toArray, List.set_cons_zero, List.set_cons_succ]
            refine wpAnyG_take (i := 7) (v := ?v7x75) rfl (by kernel_rfl) (fun _ _ _ h => h) (Or.inl ⟨by rfl, ?y7x75⟩) hHeld ?r7x75
            case y7x75 => (intro wS hSw; obtain ⟨s1, s2⟩ := hSw; go_simp; try with_reducible rfl)
            simp only [Act.put, List.getElem_toArray, List.getElem_cons_zero, List.getElem_cons_succ, List.setIfInBounds_toArray, List.set_cons_zero, List.set_cons_succ]
            refine wpAnyG_take (i := 8) (v := ?v8x76) rfl (by kernel_rfl) (fun _ _ _ h => h) (Or.inl ⟨by rfl, ?y8x76⟩) hHeld ?r8x76
            case y8x76 => (intro wS hSw; obtain ⟨s1, s2⟩ := hSw; go_simp; try with_reducible rfl)
            simp only [Act.put, List.getElem_toArray, List.getElem_cons_zero, List.getElem_cons_succ, List.setIfInBounds_toArray, List.set_cons_zero, List.set_cons_succ]
            clear hHeld
            have HP : Hid ((ak : Int).natAbs < pw 2 ∧ (z : Int).natAbs < pw 2 ∧ (3 : Int).natAbs < pw 1 ∧ ((ak : Int) * (z : Int)).natAbs < pw 4 ∧ (b : Int).natAbs < pw 2 ∧ (m : Int).natAbs < pw 2) := by
              have e1 : ak < pw 2 := by rw [pw_two]; omega
              have e2 : z < pw 2 := by rw [pw_two]; omega
              have e3 : b < pw 2 := by rw [pw_two]; omega
              have e4 : m < pw 2 := by rw [pw_two]; have := HMb.out; omega
              refine ⟨by simpa using e1, by simpa using e2, by decide, ?_, by simpa using e3, by simpa using e4⟩
              rw [Int.natAbs_mul, show (4 : Nat) = 2 + 2 from rfl, pw_add]
              exact Nat.mul_lt_mul'' (by simpa using e1) (by simpa using e2)
            refine wpAnyG_inv (fun n l a w1 => (n = 8 ∧ l = #[false, false, false, true, true, true, false, true, true, false, false, false, false] ∧ a = { tmps := ((Value.int IntKind.i64 ↑m) :: (undef) :: (u2) :: (Value.slice (some { block := g, off := 0 }) N cc) :: (Value.pointer (some { block := bf, off := 0 })) :: (Value.int IntKind.i64 ↑i) :: (Value.pointer (some { block := bt, off := 0 })) :: (Value.int IntKind.i64 ↑k) :: (u8) :: (u9) :: (u10) :: (Value.tuple #[Value.slice (some { block := g, off := 0 }) N cc, Value.agg #[Value.int IntKind.i64 0, Value.int IntKind.i64 0]]) :: (Value.int IntKind.i64 ↑m) :: (Value.tuple #[Value.slice (some { block := g, off := 0 }) N cc, Value.agg #[Value.int IntKind.i64 0, Value.int IntKind.i64 0]]) :: (Value.slice (some { block := g, off := 0 }) N cc) :: (Value.agg #[Value.int IntKind.i64 0, Value.int IntKind.i64 0]) :: (Value.bool true) :: (Value.bool false) :: (Value.int IntKind.i64 ↑m) :: (Value.bool false) :: (Value.bool false) :: (Value.int IntKind.i64 ↑m) :: (Value.bool true) :: (Value.bool false) :: (Value.bool false) :: (undef) :: (undef) :: (undef) :: (undef) :: (undef) :: (undef) :: (undef) :: (undef) :: (Value.pointer (some { block := bf, off := 0 })) :: (Value.int IntKind.i64 0) :: (Value.bool false) :: (Value.bool false) :: (Value.slice (some { block := g, off := 0 }) N cc) :: (Value.int IntKind.i64 ↑N) :: (Value.bool false) :: (Value.bool false) :: (Value.int IntKind.i64 ↑m) :: (Value.bool false) :: (undef) :: (undef) :: (undef) :: (undef) :: (Value.slice (some { block := g, off := 0 }) N cc) :: (Value.int IntKind.i64 ↑N) :: (Value.bool false) :: (Value.bool false) :: (Value.slice (some { block := g, off := 0 }) N cc) :: (Value.pointer (some { block := g, off := 0 })) :: (Value.agg #[Value.int IntKind.i64 1, Value.int IntKind.i64 1, Value.int IntKind.i64 1]) :: (Value.agg #[Value.int IntKind.i64 1, Value.int IntKind.i64 1, Value.int IntKind.i64 1]) :: (Value.bool false) :: (Value.bool false) :: (Value.int IntKind.i64 ↑i) :: (Value.slice (some { block := g, off := 0 }) N cc) :: (Value.int IntKind.i64 ↑N) :: (Value.bool true) :: (u61) :: (u62) :: (Value.slice (some { block := g, off := 0 }) N cc) :: (Value.int IntKind.i64 ↑i) :: (Value.pointer (some { block := g, off := i * 3 })) :: (Value.agg #[Value.int IntKind.i64 ↑t.fst, Value.int IntKind.i64 ↑t.snd.fst, Value.int IntKind.i64 ↑t.snd.snd]) :: (u67) :: (u68) :: (u69) :: (u70) :: (u71) :: (u72) :: (u73) :: (u74) :: (u75) :: (u76) :: (u77) :: (u78) :: (u79) :: (u80) :: (u81) :: (u82) :: (u83) :: (u84) :: (u85) :: (u86) :: (u87) :: (u88) :: (u89) :: (u90) :: (u91) :: (u92) :: (u93) :: (u94) :: (u95) :: (u96) :: (u97) :: (u98) :: (u99) :: (u100) :: (u101) :: (u102) :: (u103) :: (u104) :: (u105) :: (u106) :: (u107) :: (Value.bool false) :: (Value.int IntKind.i64 ↑k) :: (Value.bool true) :: (u111) :: (u112) :: (u113) :: (u114) :: (u115) :: (.int .i64 (k : Int)) :: (.pointer (some ⟨bt, k, none⟩)) :: (.int .i64 (ak : Int)) :: (u119) :: (.pointer (some ⟨bt, 2, none⟩)) :: (.int .i64 (z : Int)) :: (u122) :: (u123) :: (u124) :: (u125) :: (u126) :: (u127) :: (u128) :: (u129) :: (u130) :: (u131) :: (u132) :: (u133) :: (u134) :: (u135) :: (u136) :: (u137) :: (u138) :: (u139) :: (u140) :: (u141) :: (u142) :: (u143) :: (u144) :: (u145) :: (u146) :: (u147) :: (u148) :: (u149) :: (u150) :: (u151) :: (u152) :: (u153) :: (u154) :: (u155) :: (u156) :: (u157) :: (u158) :: (u159) :: (u160) :: (u161) :: (u162) :: (u163) :: (u164) :: (u165) :: (u166) :: (u167) :: (u168) :: (u169) :: []).toArray, defers := [] } ∧ Hid (Below wr.heap.size wr w1)) ∨ (∃ b0 : Nat, n = 7 ∧ l = #[true, false, false, true, true, true, false, true, true, false, false, false, false] ∧ a = { tmps := ((Value.int IntKind.i64 ↑m) :: (undef) :: (u2) :: (Value.slice (some { block := g, off := 0 }) N cc) :: (Value.pointer (some { block := bf, off := 0 })) :: (Value.int IntKind.i64 ↑i) :: (Value.pointer (some { block := bt, off := 0 })) :: (Value.int IntKind.i64 ↑k) :: (u8) :: (u9) :: (u10) :: (Value.tuple #[Value.slice (some { block := g, off := 0 }) N cc, Value.agg #[Value.int IntKind.i64 0, Value.int IntKind.i64 0]]) :: (Value.int IntKind.i64 ↑m) :: (Value.tuple #[Value.slice (some { block := g, off := 0 }) N cc, Value.agg #[Value.int IntKind.i64 0, Value.int IntKind.i64 0]]) :: (Value.slice (some { block := g, off := 0 }) N cc) :: (Value.agg #[Value.int IntKind.i64 0, Value.int IntKind.i64 0]) :: (Value.bool true) :: (Value.bool false) :: (Value.int IntKind.i64 ↑m) :: (Value.bool false) :: (Value.bool false) :: (Value.int IntKind.i64 ↑m) :: (Value.bool true) :: (Value.bool false) :: (Value.bool false) :: (undef) :: (undef) :: (undef) :: (undef) :: (undef) :: (undef) :: (undef) :: (undef) :: (Value.pointer (some { block := bf, off := 0 })) :: (Value.int IntKind.i64 0) :: (Value.bool false) :: (Value.bool false) :: (Value.slice (some { block := g, off := 0 }) N cc) :: (Value.int IntKind.i64 ↑N) :: (Value.bool false) :: (Value.bool false) :: (Value.int IntKind.i64 ↑m) :: (Value.bool false) :: (undef) :: (undef) :: (undef) :: (undef) :: (Value.slice (some { block := g, off := 0 }) N cc) :: (Value.int IntKind.i64 ↑N) :: (Value.bool false) :: (Value.bool false) :: (Value.slice (some { block := g, off := 0 }) N cc) :: (Value.pointer (some { block := g, off := 0 })) :: (Value.agg #[Value.int IntKind.i64 1, Value.int IntKind.i64 1, Value.int IntKind.i64 1]) :: (Value.agg #[Value.int IntKind.i64 1, Value.int IntKind.i64 1, Value.int IntKind.i64 1]) :: (Value.bool false) :: (Value.bool false) :: (Value.int IntKind.i64 ↑i) :: (Value.slice (some { block := g, off := 0 }) N cc) :: (Value.int IntKind.i64 ↑N) :: (Value.bool true) :: (u61) :: (u62) :: (Value.slice (some { block := g, off := 0 }) N cc) :: (Value.int IntKind.i64 ↑i) :: (Value.pointer (some { block := g, off := i * 3 })) :: (Value.agg #[Value.int IntKind.i64 ↑t.fst, Value.int IntKind.i64 ↑t.snd.fst, Value.int IntKind.i64 ↑t.snd.snd]) :: (u67) :: (u68) :: (u69) :: (u70) :: (u71) :: (u72) :: (u73) :: (u74) :: (u75) :: (u76) :: (u77) :: (u78) :: (u79) :: (u80) :: (u81) :: (u82) :: (u83) :: (u84) :: (u85) :: (u86) :: (u87) :: (u88) :: (u89) :: (u90) :: (u91) :: (u92) :: (u93) :: (u94) :: (u95) :: (u96) :: (u97) :: (u98) :: (u99) :: (u100) :: (u101) :: (u102) :: (u103) :: (u104) :: (u105) :: (u106) :: (u107) :: (Value.bool false) :: (Value.int IntKind.i64 ↑k) :: (Value.bool true) :: (u111) :: (u112) :: (.pointer (some ⟨b0, 0, none⟩)) :: (u114) :: (u115) :: (.int .i64 (k : Int)) :: (.pointer (some ⟨bt, k, none⟩)) :: (.int .i64 (ak : Int)) :: (u119) :: (.pointer (some ⟨bt, 2, none⟩)) :: (.int .i64 (z : Int)) :: (u122) :: (u123) :: (u124) :: (u125) :: (u126) :: (u127) :: (u128) :: (u129) :: (u130) :: (u131) :: (u132) :: (u133) :: (u134) :: (u135) :: (u136) :: (u137) :: (u138) :: (u139) :: (u140) :: (u141) :: (u142) :: (u143) :: (u144) :: (u145) :: (u146) :: (u147) :: (u148) :: (u149) :: (u150) :: (u151) :: (u152) :: (u153) :: (u154) :: (u155) :: (u156) :: (u157) :: (u158) :: (u159) :: (u160) :: (u161) :: (u162) :: (u163) :: (u164) :: (u165) :: (u166) :: (u167) :: (u168) :: (u169) :: []).toArray, defers := [] } ∧ Hid (Below wr.heap.size wr w1 ∧ wr.heap.size ≤ b0 ∧ Slot w1 b0)) ∨ (∃ n0 : Nat, n = 7 ∧ l = #[false, true, false, true, true, true, false, true, true, false, false, false, false] ∧ a = { tmps := ((Value.int IntKind.i64 ↑m) :: (undef) :: (u2) :: (Value.slice (some { block := g, off := 0 }) N cc) :: (Value.pointer (some { block := bf, off := 0 })) :: (Value.int IntKind.i64 ↑i) :: (Value.pointer (some { block := bt, off := 0 })) :: (Value.int IntKind.i64 ↑k) :: (u8) :: (u9) :: (u10) :: (Value.tuple #[Value.slice (some { block := g, off := 0 }) N cc, Value.agg #[Value.int IntKind.i64 0, Value.int IntKind.i64 0]]) :: (Value.int IntKind.i64 ↑m) :: (Value.tuple #[Value.slice (some { block := g, off := 0 }) N cc, Value.agg #[Value.int IntKind.i64 0, Value.int IntKind.i64 0]]) :: (Value.slice (some { block := g, off := 0 }) N cc) :: (Value.agg #[Value.int IntKind.i64 0, Value.int IntKind.i64 0]) :: (Value.bool true) :: (Value.bool false) :: (Value.int IntKind.i64 ↑m) :: (Value.bool false) :: (Value.bool false) :: (Value.int IntKind.i64 ↑m) :: (Value.bool true) :: (Value.bool false) :: (Value.bool false) :: (undef) :: (undef) :: (undef) :: (undef) :: (undef) :: (undef) :: (undef) :: (undef) :: (Value.pointer (some { block := bf, off := 0 })) :: (Value.int IntKind.i64 0) :: (Value.bool false) :: (Value.bool false) :: (Value.slice (some { block := g, off := 0 }) N cc) :: (Value.int IntKind.i64 ↑N) :: (Value.bool false) :: (Value.bool false) :: (Value.int IntKind.i64 ↑m) :: (Value.bool false) :: (undef) :: (undef) :: (undef) :: (undef) :: (Value.slice (some { block := g, off := 0 }) N cc) :: (Value.int IntKind.i64 ↑N) :: (Value.bool false) :: (Value.bool false) :: (Value.slice (some { block := g, off := 0 }) N cc) :: (Value.pointer (some { block := g, off := 0 })) :: (Value.agg #[Value.int IntKind.i64 1, Value.int IntKind.i64 1, Value.int IntKind.i64 1]) :: (Value.agg #[Value.int IntKind.i64 1, Value.int IntKind.i64 1, Value.int IntKind.i64 1]) :: (Value.bool false) :: (Value.bool false) :: (Value.int IntKind.i64 ↑i) :: (Value.slice (some { block := g, off := 0 }) N cc) :: (Value.int IntKind.i64 ↑N) :: (Value.bool true) :: (u61) :: (u62) :: (Value.slice (some { block := g, off := 0 }) N cc) :: (Value.int IntKind.i64 ↑i) :: (Value.pointer (some { block := g, off := i * 3 })) :: (Value.agg #[Value.int IntKind.i64 ↑t.fst, Value.int IntKind.i64 ↑t.snd.fst, Value.int IntKind.i64 ↑t.snd.snd]) :: (u67) :: (u68) :: (u69) :: (u70) :: (u71) :: (u72) :: (u73) :: (u74) :: (u75) :: (u76) :: (u77) :: (u78) :: (u79) :: (u80) :: (u81) :: (u82) :: (u83) :: (u84) :: (u85) :: (u86) :: (u87) :: (u88) :: (u89) :: (u90) :: (u91) :: (u92) :: (u93) :: (u94) :: (u95) :: (u96) :: (u97) :: (u98) :: (u99) :: (u100) :: (u101) :: (u102) :: (u103) :: (u104) :: (u105) :: (u106) :: (u107) :: (Value.bool false) :: (Value.int IntKind.i64 ↑k) :: (Value.bool true) :: (u111) :: (u112) :: (u113) :: (.pointer (some ⟨n0, 0, none⟩)) :: (u115) :: (.int .i64 (k : Int)) :: (.pointer (some ⟨bt, k, none⟩)) :: (.int .i64 (ak : Int)) :: (u119) :: (.pointer (some ⟨bt, 2, none⟩)) :: (.int .i64 (z : Int)) :: (u122) :: (u123) :: (u124) :: (u125) :: (u126) :: (u127) :: (u128) :: (u129) :: (u130) :: (u131) :: (u132) :: (u133) :: (u134) :: (u135) :: (u136) :: (u137) :: (u138) :: (u139) :: (u140) :: (u141) :: (u142) :: (u143) :: (u144) :: (u145) :: (u146) :: (u147) :: (u148) :: (u149) :: (u150) :: (u151) :: (u152) :: (u153) :: (u154) :: (u155) :: (u156) :: (u157) :: (u158) :: (u159) :: (u160) :: (u161) :: (u162) :: (u163) :: (u164) :: (u165) :: (u166) :: (u167) :: (u168) :: (u169) :: []).toArray, defers := [] } ∧ Hid (Below wr.heap.size wr w1 ∧ wr.heap.size ≤ n0 ∧ BigAt w1 n0 3)) ∨ (∃ b1 : Nat, n = 7 ∧ l = #[false, false, true, true, true, true, false, true, true, false, false, false, false] ∧ a = { tmps := ((Value.int IntKind.i64 ↑m) :: (undef) :: (u2) :: (Value.slice (some { block := g, off := 0 }) N cc) :: (Value.pointer (some { block := bf, off := 0 })) :: (Value.int IntKind.i64 ↑i) :: (Value.pointer (some { block := bt, off := 0 })) :: (Value.int IntKind.i64 ↑k) :: (u8) :: (u9) :: (u10) :: (Value.tuple #[Value.slice (some { block := g, off := 0 }) N cc, Value.agg #[Value.int IntKind.i64 0, Value.int IntKind.i64 0]]) :: (Value.int IntKind.i64 ↑m) :: (Value.tuple #[Value.slice (some { block := g, off := 0 }) N cc, Value.agg #[Value.int IntKind.i64 0, Value.int IntKind.i64 0]]) :: (Value.slice (some { block := g, off := 0 }) N cc) :: (Value.agg #[Value.int IntKind.i64 0, Value.int IntKind.i64 0]) :: (Value.bool true) :: (Value.bool false) :: (Value.int IntKind.i64 ↑m) :: (Value.bool false) :: (Value.bool false) :: (Value.int IntKind.i64 ↑m) :: (Value.bool true) :: (Value.bool false) :: (Value.bool false) :: (undef) :: (undef) :: (undef) :: (undef) :: (undef) :: (undef) :: (undef) :: (undef) :: (Value.pointer (some { block := bf, off := 0 })) :: (Value.int IntKind.i64 0) :: (Value.bool false) :: (Value.bool false) :: (Value.slice (some { block := g, off := 0 }) N cc) :: (Value.int IntKind.i64 ↑N) :: (Value.bool false) :: (Value.bool false) :: (Value.int IntKind.i64 ↑m) :: (Value.bool false) :: (undef) :: (undef) :: (undef) :: (undef) :: (Value.slice (some { block := g, off := 0 }) N cc) :: (Value.int IntKind.i64 ↑N) :: (Value.bool false) :: (Value.bool false) :: (Value.slice (some { block := g, off := 0 }) N cc) :: (Value.pointer (some { block := g, off := 0 })) :: (Value.agg #[Value.int IntKind.i64 1, Value.int IntKind.i64 1, Value.int IntKind.i64 1]) :: (Value.agg #[Value.int IntKind.i64 1, Value.int IntKind.i64 1, Value.int IntKind.i64 1]) :: (Value.bool false) :: (Value.bool false) :: (Value.int IntKind.i64 ↑i) :: (Value.slice (some { block := g, off := 0 }) N cc) :: (Value.int IntKind.i64 ↑N) :: (Value.bool true) :: (u61) :: (u62) :: (Value.slice (some { block := g, off := 0 }) N cc) :: (Value.int IntKind.i64 ↑i) :: (Value.pointer (some { block := g, off := i * 3 })) :: (Value.agg #[Value.int IntKind.i64 ↑t.fst, Value.int IntKind.i64 ↑t.snd.fst, Value.int IntKind.i64 ↑t.snd.snd]) :: (u67) :: (u68) :: (u69) :: (u70) :: (u71) :: (u72) :: (u73) :: (u74) :: (u75) :: (u76) :: (u77) :: (u78) :: (u79) :: (u80) :: (u81) :: (u82) :: (u83) :: (u84) :: (u85) :: (u86) :: (u87) :: (u88) :: (u89) :: (u90) :: (u91) :: (u92) :: (u93) :: (u94) :: (u95) :: (u96) :: (u97) :: (u98) :: (u99) :: (u100) :: (u101) :: (u102) :: (u103) :: (u104) :: (u105) :: (u106) :: (u107) :: (Value.bool false) :: (Value.int IntKind.i64 ↑k) :: (Value.bool true) :: (u111) :: (u112) :: (u113) :: (u114) :: (.pointer (some ⟨b1, 0, none⟩)) :: (.int .i64 (k : Int)) :: (.pointer (some ⟨bt, k, none⟩)) :: (.int .i64 (ak : Int)) :: (u119) :: (.pointer (some ⟨bt, 2, none⟩)) :: (.int .i64 (z : Int)) :: (u122) :: (u123) :: (u124) :: (u125) :: (u126) :: (u127) :: (u128) :: (u129) :: (u130) :: (u131) :: (u132) :: (u133) :: (u134) :: (u135) :: (u136) :: (u137) :: (u138) :: (u139) :: (u140) :: (u141) :: (u142) :: (u143) :: (u144) :: (u145) :: (u146) :: (u147) :: (u148) :: (u149) :: (u150) :: (u151) :: (u152) :: (u153) :: (u154) :: (u155) :: (u156) :: (u157) :: (u158) :: (u159) :: (u160) :: (u161) :: (u162) :: (u163) :: (u164) :: (u165) :: (u166) :: (u167) :: (u168) :: (u169) :: []).toArray, defers := [] } ∧ Hid (Below wr.heap.size wr w1 ∧ wr.heap.size ≤ b1 ∧ Slot w1 b1)) ∨ (∃ b0 n0 : Nat, n = 6 ∧ l = #[true, true, false, true, true, true, false, true, true, false, false, false, false] ∧ a = { tmps := ((Value.int IntKind.i64 ↑m) :: (undef) :: (u2) :: (Value.slice (some { block := g, off := 0 }) N cc) :: (Value.pointer (some { block := bf, off := 0 })) :: (Value.int IntKind.i64 ↑i) :: (Value.pointer (some { block := bt, off := 0 })) :: (Value.int IntKind.i64 ↑k) :: (u8) :: (u9) :: (u10) :: (Value.tuple #[Value.slice (some { block := g, off := 0 }) N cc, Value.agg #[Value.int IntKind.i64 0, Value.int IntKind.i64 0]]) :: (Value.int IntKind.i64 ↑m) :: (Value.tuple #[Value.slice (some { block := g, off := 0 }) N cc, Value.agg #[Value.int IntKind.i64 0, Value.int IntKind.i64 0]]) :: (Value.slice (some { block := g, off := 0 }) N cc) :: (Value.agg #[Value.int IntKind.i64 0, Value.int IntKind.i64 0]) :: (Value.bool true) :: (Value.bool false) :: (Value.int IntKind.i64 ↑m) :: (Value.bool false) :: (Value.bool false) :: (Value.int IntKind.i64 ↑m) :: (Value.bool true) :: (Value.bool false) :: (Value.bool false) :: (undef) :: (undef) :: (undef) :: (undef) :: (undef) :: (undef) :: (undef) :: (undef) :: (Value.pointer (some { block := bf, off := 0 })) :: (Value.int IntKind.i64 0) :: (Value.bool false) :: (Value.bool false) :: (Value.slice (some { block := g, off := 0 }) N cc) :: (Value.int IntKind.i64 ↑N) :: (Value.bool false) :: (Value.bool false) :: (Value.int IntKind.i64 ↑m) :: (Value.bool false) :: (undef) :: (undef) :: (undef) :: (undef) :: (Value.slice (some { block := g, off := 0 }) N cc) :: (Value.int IntKind.i64 ↑N) :: (Value.bool false) :: (Value.bool false) :: (Value.slice (some { block := g, off := 0 }) N cc) :: (Value.pointer (some { block := g, off := 0 })) :: (Value.agg #[Value.int IntKind.i64 1, Value.int IntKind.i64 1, Value.int IntKind.i64 1]) :: (Value.agg #[Value.int IntKind.i64 1, Value.int IntKind.i64 1, Value.int IntKind.i64 1]) :: (Value.bool false) :: (Value.bool false) :: (Value.int IntKind.i64 ↑i) :: (Value.slice (some { block := g, off := 0 }) N cc) :: (Value.int IntKind.i64 ↑N) :: (Value.bool true) :: (u61) :: (u62) :: (Value.slice (some { block := g, off := 0 }) N cc) :: (Value.int IntKind.i64 ↑i) :: (Value.pointer (some { block := g, off := i * 3 })) :: (Value.agg #[Value.int IntKind.i64 ↑t.fst, Value.int IntKind.i64 ↑t.snd.fst, Value.int IntKind.i64 ↑t.snd.snd]) :: (u67) :: (u68) :: (u69) :: (u70) :: (u71) :: (u72) :: (u73) :: (u74) :: (u75) :: (u76) :: (u77) :: (u78) :: (u79) :: (u80) :: (u81) :: (u82) :: (u83) :: (u84) :: (u85) :: (u86) :: (u87) :: (u88) :: (u89) :: (u90) :: (u91) :: (u92) :: (u93) :: (u94) :: (u95) :: (u96) :: (u97) :: (u98) :: (u99) :: (u100) :: (u101) :: (u102) :: (u103) :: (u104) :: (u105) :: (u106) :: (u107) :: (Value.bool false) :: (Value.int IntKind.i64 ↑k) :: (Value.bool true) :: (u111) :: (u112) :: (.pointer (some ⟨b0, 0, none⟩)) :: (.pointer (some ⟨n0, 0, none⟩)) :: (u115) :: (.int .i64 (k : Int)) :: (.pointer (some ⟨bt, k, none⟩)) :: (.int .i64 (ak : Int)) :: (u119) :: (.pointer (some ⟨bt, 2, none⟩)) :: (.int .i64 (z : Int)) :: (u122) :: (u123) :: (u124) :: (u125) :: (u126) :: (u127) :: (u128) :: (u129) :: (u130) :: (u131) :: (u132) :: (u133) :: (u134) :: (u135) :: (u136) :: (u137) :: (u138) :: (u139) :: (u140) :: (u141) :: (u142) :: (u143) :: (u144) :: (u145) :: (u146) :: (u147) :: (u148) :: (u149) :: (u150) :: (u151) :: (u152) :: (u153) :: (u154) :: (u155) :: (u156) :: (u157) :: (u158) :: (u159) :: (u160) :: (u161) :: (u162) :: (u163) :: (u164) :: (u165) :: (u166) :: (u167) :: (u168) :: (u169) :: []).toArray, defers := [] } ∧ Hid (Below wr.heap.size wr w1 ∧ wr.heap.size ≤ b0 ∧ Slot w1 b0 ∧ wr.heap.size ≤ n0 ∧ BigAt w1 n0 3 ∧ b0 ≠ n0)) ∨ (∃ b0 b1 : Nat, n = 6 ∧ l = #[true, false, true, true, true, true, false, true, true, false, false, false, false] ∧ a = { tmps := ((Value.int IntKind.i64 ↑m) :: (undef) :: (u2) :: (Value.slice (some { block := g, off := 0 }) N cc) :: (Value.pointer (some { block := bf, off := 0 })) :: (Value.int IntKind.i64 ↑i) :: (Value.pointer (some { block := bt, off := 0 })) :: (Value.int IntKind.i64 ↑k) :: (u8) :: (u9) :: (u10) :: (Value.tuple #[Value.slice (some { block := g, off := 0 }) N cc, Value.agg #[Value.int IntKind.i64 0, Value.int IntKind.i64 0]]) :: (Value.int IntKind.i64 ↑m) :: (Value.tuple #[Value.slice (some { block := g, off := 0 }) N cc, Value.agg #[Value.int IntKind.i64 0, Value.int IntKind.i64 0]]) :: (Value.slice (some { block := g, off := 0 }) N cc) :: (Value.agg #[Value.int IntKind.i64 0, Value.int IntKind.i64 0]) :: (Value.bool true) :: (Value.bool false) :: (Value.int IntKind.i64 ↑m) :: (Value.bool false) :: (Value.bool false) :: (Value.int IntKind.i64 ↑m) :: (Value.bool true) :: (Value.bool false) :: (Value.bool false) :: (undef) :: (undef) :: (undef) :: (undef) :: (undef) :: (undef) :: (undef) :: (undef) :: (Value.pointer (some { block := bf, off := 0 })) :: (Value.int IntKind.i64 0) :: (Value.bool false) :: (Value.bool false) :: (Value.slice (some { block := g, off := 0 }) N cc) :: (Value.int IntKind.i64 ↑N) :: (Value.bool false) :: (Value.bool false) :: (Value.int IntKind.i64 ↑m) :: (Value.bool false) :: (undef) :: (undef) :: (undef) :: (undef) :: (Value.slice (some { block := g, off := 0 }) N cc) :: (Value.int IntKind.i64 ↑N) :: (Value.bool false) :: (Value.bool false) :: (Value.slice (some { block := g, off := 0 }) N cc) :: (Value.pointer (some { block := g, off := 0 })) :: (Value.agg #[Value.int IntKind.i64 1, Value.int IntKind.i64 1, Value.int IntKind.i64 1]) :: (Value.agg #[Value.int IntKind.i64 1, Value.int IntKind.i64 1, Value.int IntKind.i64 1]) :: (Value.bool false) :: (Value.bool false) :: (Value.int IntKind.i64 ↑i) :: (Value.slice (some { block := g, off := 0 }) N cc) :: (Value.int IntKind.i64 ↑N) :: (Value.bool true) :: (u61) :: (u62) :: (Value.slice (some { block := g, off := 0 }) N cc) :: (Value.int IntKind.i64 ↑i) :: (Value.pointer (some { block := g, off := i * 3 })) :: (Value.agg #[Value.int IntKind.i64 ↑t.fst, Value.int IntKind.i64 ↑t.snd.fst, Value.int IntKind.i64 ↑t.snd.snd]) :: (u67) :: (u68) :: (u69) :: (u70) :: (u71) :: (u72) :: (u73) :: (u74) :: (u75) :: (u76) :: (u77) :: (u78) :: (u79) :: (u80) :: (u81) :: (u82) :: (u83) :: (u84) :: (u85) :: (u86) :: (u87) :: (u88) :: (u89) :: (u90) :: (u91) :: (u92) :: (u93) :: (u94) :: (u95) :: (u96) :: (u97) :: (u98) :: (u99) :: (u100) :: (u101) :: (u102) :: (u103) :: (u104) :: (u105) :: (u106) :: (u107) :: (Value.bool false) :: (Value.int IntKind.i64 ↑k) :: (Value.bool true) :: (u111) :: (u112) :: (.pointer (some ⟨b0, 0, none⟩)) :: (u114) :: (.pointer (some ⟨b1, 0, none⟩)) :: (.int .i64 (k : Int)) :: (.pointer (some ⟨bt, k, none⟩)) :: (.int .i64 (ak : Int)) :: (u119) :: (.pointer (some ⟨bt, 2, none⟩)) :: (.int .i64 (z : Int)) :: (u122) :: (u123) :: (u124) :: (u125) :: (u126) :: (u127) :: (u128) :: (u129) :: (u130) :: (u131) :: (u132) :: (u133) :: (u134) :: (u135) :: (u136) :: (u137) :: (u138) :: (u139) :: (u140) :: (u141) :: (u142) :: (u143) :: (u144) :: (u145) :: (u146) :: (u147) :: (u148) :: (u149) :: (u150) :: (u151) :: (u152) :: (u153) :: (u154) :: (u155) :: (u156) :: (u157) :: (u158) :: (u159) :: (u160) :: (u161) :: (u162) :: (u163) :: (u164) :: (u165) :: (u166) :: (u167) :: (u168) :: (u169) :: []).toArray, defers := [] } ∧ Hid (Below wr.heap.size wr w1 ∧ wr.heap.size ≤ b0 ∧ Slot w1 b0 ∧ wr.heap.size ≤ b1 ∧ Slot w1 b1 ∧ b0 ≠ b1)) ∨ (∃ n0 b1 : Nat, n = 6 ∧ l = #[false, true, true, true, true, true, false, true, true, false, false, false, false] ∧ a = { tmps := ((Value.int IntKind.i64 ↑m) :: (undef) :: (u2) :: (Value.slice (some { block := g, off := 0 }) N cc) :: (Value.pointer (some { block := bf, off := 0 })) :: (Value.int IntKind.i64 ↑i) :: (Value.pointer (some { block := bt, off := 0 })) :: (Value.int IntKind.i64 ↑k) :: (u8) :: (u9) :: (u10) :: (Value.tuple #[Value.slice (some { block := g, off := 0 }) N cc, Value.agg #[Value.int IntKind.i64 0, Value.int IntKind.i64 0]]) :: (Value.int IntKind.i64 ↑m) :: (Value.tuple #[Value.slice (some { block := g, off := 0 }) N cc, Value.agg #[Value.int IntKind.i64 0, Value.int IntKind.i64 0]]) :: (Value.slice (some { block := g, off := 0 }) N cc) :: (Value.agg #[Value.int IntKind.i64 0, Value.int IntKind.i64 0]) :: (Value.bool true) :: (Value.bool false) :: (Value.int IntKind.i64 ↑m) :: (Value.bool false) :: (Value.bool false) :: (Value.int IntKind.i64 ↑m) :: (Value.bool true) :: (Value.bool false) :: (Value.bool false) :: (undef) :: (undef) :: (undef) :: (undef) :: (undef) :: (undef) :: (undef) :: (undef) :: (Value.pointer (some { block := bf, off := 0 })) :: (Value.int IntKind.i64 0) :: (Value.bool false) :: (Value.bool false) :: (Value.slice (some { block := g, off := 0 }) N cc) :: (Value.int IntKind.i64 ↑N) :: (Value.bool false) :: (Value.bool false) :: (Value.int IntKind.i64 ↑m) :: (Value.bool false) :: (undef) :: (undef) :: (undef) :: (undef) :: (Value.slice (some { block := g, off := 0 }) N cc) :: (Value.int IntKind.i64 ↑N) :: (Value.bool false) :: (Value.bool false) :: (Value.slice (some { block := g, off := 0 }) N cc) :: (Value.pointer (some { block := g, off := 0 })) :: (Value.agg #[Value.int IntKind.i64 1, Value.int IntKind.i64 1, Value.int IntKind.i64 1]) :: (Value.agg #[Value.int IntKind.i64 1, Value.int IntKind.i64 1, Value.int IntKind.i64 1]) :: (Value.bool false) :: (Value.bool false) :: (Value.int IntKind.i64 ↑i) :: (Value.slice (some { block := g, off := 0 }) N cc) :: (Value.int IntKind.i64 ↑N) :: (Value.bool true) :: (u61) :: (u62) :: (Value.slice (some { block := g, off := 0 }) N cc) :: (Value.int IntKind.i64 ↑i) :: (Value.pointer (some { block := g, off := i * 3 })) :: (Value.agg #[Value.int IntKind.i64 ↑t.fst, Value.int IntKind.i64 ↑t.snd.fst, Value.int IntKind.i64 ↑t.snd.snd]) :: (u67) :: (u68) :: (u69) :: (u70) :: (u71) :: (u72) :: (u73) :: (u74) :: (u75) :: (u76) :: (u77) :: (u78) :: (u79) :: (u80) :: (u81) :: (u82) :: (u83) :: (u84) :: (u85) :: (u86) :: (u87) :: (u88) :: (u89) :: (u90) :: (u91) :: (u92) :: (u93) :: (u94) :: (u95) :: (u96) :: (u97) :: (u98) :: (u99) :: (u100) :: (u101) :: (u102) :: (u103) :: (u104) :: (u105) :: (u106) :: (u107) :: (Value.bool false) :: (Value.int IntKind.i64 ↑k) :: (Value.bool true) :: (u111) :: (u112) :: (u113) :: (.pointer (some ⟨n0, 0, none⟩)) :: (.pointer (some ⟨b1, 0, none⟩)) :: (.int .i64 (k : Int)) :: (.pointer (some ⟨bt, k, none⟩)) :: (.int .i64 (ak : Int)) :: (u119) :: (.pointer (some ⟨bt, 2, none⟩)) :: (.int .i64 (z : Int)) :: (u122) :: (u123) :: (u124) :: (u125) :: (u126) :: (u127) :: (u128) :: (u129) :: (u130) :: (u131) :: (u132) :: (u133) :: (u134) :: (u135) :: (u136) :: (u137) :: (u138) :: (u139) :: (u140) :: (u141) :: (u142) :: (u143) :: (u144) :: (u145) :: (u146) :: (u147) :: (u148) :: (u149) :: (u150) :: (u151) :: (u152) :: (u153) :: (u154) :: (u155) :: (u156) :: (u157) :: (u158) :: (u159) :: (u160) :: (u161) :: (u162) :: (u163) :: (u164) :: (u165) :: (u166) :: (u167) :: (u168) :: (u169) :: []).toArray, defers := [] } ∧ Hid (Below wr.heap.size wr w1 ∧ wr.heap.size ≤ n0 ∧ BigAt w1 n0 3 ∧ wr.heap.size ≤ b1 ∧ Slot w1 b1 ∧ n0 ≠ b1)) ∨ (∃ n0 n1 : Nat, n = 6 ∧ l = #[false, true, false, true, true, true, true, true, true, false, false, false, false] ∧ a = { tmps := ((Value.int IntKind.i64 ↑m) :: (undef) :: (u2) :: (Value.slice (some { block := g, off := 0 }) N cc) :: (Value.pointer (some { block := bf, off := 0 })) :: (Value.int IntKind.i64 ↑i) :: (Value.pointer (some { block := bt, off := 0 })) :: (Value.int IntKind.i64 ↑k) :: (u8) :: (u9) :: (u10) :: (Value.tuple #[Value.slice (some { block := g, off := 0 }) N cc, Value.agg #[Value.int IntKind.i64 0, Value.int IntKind.i64 0]]) :: (Value.int IntKind.i64 ↑m) :: (Value.tuple #[Value.slice (some { block := g, off := 0 }) N cc, Value.agg #[Value.int IntKind.i64 0, Value.int IntKind.i64 0]]) :: (Value.slice (some { block := g, off := 0 }) N cc) :: (Value.agg #[Value.int IntKind.i64 0, Value.int IntKind.i64 0]) :: (Value.bool true) :: (Value.bool false) :: (Value.int IntKind.i64 ↑m) :: (Value.bool false) :: (Value.bool false) :: (Value.int IntKind.i64 ↑m) :: (Value.bool true) :: (Value.bool false) :: (Value.bool false) :: (undef) :: (undef) :: (undef) :: (undef) :: (undef) :: (undef) :: (undef) :: (undef) :: (Value.pointer (some { block := bf, off := 0 })) :: (Value.int IntKind.i64 0) :: (Value.bool false) :: (Value.bool false) :: (Value.slice (some { block := g, off := 0 }) N cc) :: (Value.int IntKind.i64 ↑N) :: (Value.bool false) :: (Value.bool false) :: (Value.int IntKind.i64 ↑m) :: (Value.bool false) :: (undef) :: (undef) :: (undef) :: (undef) :: (Value.slice (some { block := g, off := 0 }) N cc) :: (Value.int IntKind.i64 ↑N) :: (Value.bool false) :: (Value.bool false) :: (Value.slice (some { block := g, off := 0 }) N cc) :: (Value.pointer (some { block := g, off := 0 })) :: (Value.agg #[Value.int IntKind.i64 1, Value.int IntKind.i64 1, Value.int IntKind.i64 1]) :: (Value.agg #[Value.int IntKind.i64 1, Value.int IntKind.i64 1, Value.int IntKind.i64 1]) :: (Value.bool false) :: (Value.bool false) :: (Value.int IntKind.i64 ↑i) :: (Value.slice (some { block := g, off := 0 }) N cc) :: (Value.int IntKind.i64 ↑N) :: (Value.bool true) :: (u61) :: (u62) :: (Value.slice (some { block := g, off := 0 }) N cc) :: (Value.int IntKind.i64 ↑i) :: (Value.pointer (some { block := g, off := i * 3 })) :: (Value.agg #[Value.int IntKind.i64 ↑t.fst, Value.int IntKind.i64 ↑t.snd.fst, Value.int IntKind.i64 ↑t.snd.snd]) :: (u67) :: (u68) :: (u69) :: (u70) :: (u71) :: (u72) :: (u73) :: (u74) :: (u75) :: (u76) :: (u77) :: (u78) :: (u79) :: (u80) :: (u81) :: (u82) :: (u83) :: (u84) :: (u85) :: (u86) :: (u87) :: (u88) :: (u89) :: (u90) :: (u91) :: (u92) :: (u93) :: (u94) :: (u95) :: (u96) :: (u97) :: (u98) :: (u99) :: (u100) :: (u101) :: (u102) :: (u103) :: (u104) :: (u105) :: (u106) :: (u107) :: (Value.bool false) :: (Value.int IntKind.i64 ↑k) :: (Value.bool true) :: (u111) :: (u112) :: (u113) :: (.pointer (some ⟨n0, 0, none⟩)) :: (u115) :: (.int .i64 (k : Int)) :: (.pointer (some ⟨bt, k, none⟩)) :: (.int .i64 (ak : Int)) :: (.pointer (some ⟨n1, 0, none⟩)) :: (.pointer (some ⟨bt, 2, none⟩)) :: (.int .i64 (z : Int)) :: (u122) :: (u123) :: (u124) :: (u125) :: (u126) :: (u127) :: (u128) :: (u129) :: (u130) :: (u131) :: (u132) :: (u133) :: (u134) :: (u135) :: (u136) :: (u137) :: (u138) :: (u139) :: (u140) :: (u141) :: (u142) :: (u143) :: (u144) :: (u145) :: (u146) :: (u147) :: (u148) :: (u149) :: (u150) :: (u151) :: (u152) :: (u153) :: (u154) :: (u155) :: (u156) :: (u157) :: (u158) :: (u159) :: (u160) :: (u161) :: (u162) :: (u163) :: (u164) :: (u165) :: (u166) :: (u167) :: (u168) :: (u169) :: []).toArray, defers := [] } ∧ Hid (Below wr.heap.size wr w1 ∧ wr.heap.size ≤ n0 ∧ BigAt w1 n0 3 ∧ wr.heap.size ≤ n1 ∧ BigAt w1 n1 (ak : Int) ∧ n0 ≠ n1)) ∨ (∃ b0 n0 b1 : Nat, n = 5 ∧ l = #[true, true, true, true, true, true, false, true, true, false, false, false, false] ∧ a = { tmps := ((Value.int IntKind.i64 ↑m) :: (undef) :: (u2) :: (Value.slice (some { block := g, off := 0 }) N cc) :: (Value.pointer (some { block := bf, off := 0 })) :: (Value.int IntKind.i64 ↑i) :: (Value.pointer (some { block := bt, off := 0 })) :: (Value.int IntKind.i64 ↑k) :: (u8) :: (u9) :: (u10) :: (Value.tuple #[Value.slice (some { block := g, off := 0 }) N cc, Value.agg #[Value.int IntKind.i64 0, Value.int IntKind.i64 0]]) :: (Value.int IntKind.i64 ↑m) :: (Value.tuple #[Value.slice (some { block := g, off := 0 }) N cc, Value.agg #[Value.int IntKind.i64 0, Value.int IntKind.i64 0]]) :: (Value.slice (some { block := g, off := 0 }) N cc) :: (Value.agg #[Value.int IntKind.i64 0, Value.int IntKind.i64 0]) :: (Value.bool true) :: (Value.bool false) :: (Value.int IntKind.i64 ↑m) :: (Value.bool false) :: (Value.bool false) :: (Value.int IntKind.i64 ↑m) :: (Value.bool true) :: (Value.bool false) :: (Value.bool false) :: (undef) :: (undef) :: (undef) :: (undef) :: (undef) :: (undef) :: (undef) :: (undef) :: (Value.pointer (some { block := bf, off := 0 })) :: (Value.int IntKind.i64 0) :: (Value.bool false) :: (Value.bool false) :: (Value.slice (some { block := g, off := 0 }) N cc) :: (Value.int IntKind.i64 ↑N) :: (Value.bool false) :: (Value.bool false) :: (Value.int IntKind.i64 ↑m) :: (Value.bool false) :: (undef) :: (undef) :: (undef) :: (undef) :: (Value.slice (some { block := g, off := 0 }) N cc) :: (Value.int IntKind.i64 ↑N) :: (Value.bool false) :: (Value.bool false) :: (Value.slice (some { block := g, off := 0 }) N cc) :: (Value.pointer (some { block := g, off := 0 })) :: (Value.agg #[Value.int IntKind.i64 1, Value.int IntKind.i64 1, Value.int IntKind.i64 1]) :: (Value.agg #[Value.int IntKind.i64 1, Value.int IntKind.i64 1, Value.int IntKind.i64 1]) :: (Value.bool false) :: (Value.bool false) :: (Value.int IntKind.i64 ↑i) :: (Value.slice (some { block := g, off := 0 }) N cc) :: (Value.int IntKind.i64 ↑N) :: (Value.bool true) :: (u61) :: (u62) :: (Value.slice (some { block := g, off := 0 }) N cc) :: (Value.int IntKind.i64 ↑i) :: (Value.pointer (some { block := g, off := i * 3 })) :: (Value.agg #[Value.int IntKind.i64 ↑t.fst, Value.int IntKind.i64 ↑t.snd.fst, Value.int IntKind.i64 ↑t.snd.snd]) :: (u67) :: (u68) :: (u69) :: (u70) :: (u71) :: (u72) :: (u73) :: (u74) :: (u75) :: (u76) :: (u77) :: (u78) :: (u79) :: (u80) :: (u81) :: (u82) :: (u83) :: (u84) :: (u85) :: (u86) :: (u87) :: (u88) :: (u89) :: (u90) :: (u91) :: (u92) :: (u93) :: (u94) :: (u95) :: (u96) :: (u97) :: (u98) :: (u99) :: (u100) :: (u101) :: (u102) :: (u103) :: (u104) :: (u105) :: (u106) :: (u107) :: (Value.bool false) :: (Value.int IntKind.i64 ↑k) :: (Value.bool true) :: (u111) :: (u112) :: (.pointer (some ⟨b0, 0, none⟩)) :: (.pointer (some ⟨n0, 0, none⟩)) :: (.pointer (some ⟨b1, 0, none⟩)) :: (.int .i64 (k : Int)) :: (.pointer (some ⟨bt, k, none⟩)) :: (.int .i64 (ak : Int)) :: (u119) :: (.pointer (some ⟨bt, 2, none⟩)) :: (.int .i64 (z : Int)) :: (u122) :: (u123) :: (u124) :: (u125) :: (u126) :: (u127) :: (u128) :: (u129) :: (u130) :: (u131) :: (u132) :: (u133) :: (u134) :: (u135) :: (u136) :: (u137) :: (u138) :: (u139) :: (u140) :: (u141) :: (u142) :: (u143) :: (u144) :: (u145) :: (u146) :: (u147) :: (u148) :: (u149) :: (u150) :: (u151) :: (u152) :: (u153) :: (u154) :: (u155) :: (u156) :: (u157) :: (u158) :: (u159) :: (u160) :: (u161) :: (u162) :: (u163) :: (u164) :: (u165) :: (u166) :: (u167) :: (u168) :: (u169) :: []).toArray, defers := [] } ∧ Hid (Below wr.heap.size wr w1 ∧ wr.heap.size ≤ b0 ∧ Slot w1 b0 ∧ wr.heap.size ≤ n0 ∧ BigAt w1 n0 3 ∧ wr.heap.size ≤ b1 ∧ Slot w1 b1 ∧ b0 ≠ n0 ∧ b0 ≠ b1 ∧ n0 ≠ b1)) ∨ (∃ b0 n0 n1 : Nat, n = 5 ∧ l = #[true, true, false, true, true, true, true, true, true, false, false, false, false] ∧ a = { tmps := ((Value.int IntKind.i64 ↑m) :: (undef) :: (u2) :: (Value.slice (some { block := g, off := 0 }) N cc) :: (Value.pointer (some { block := bf, off := 0 })) :: (Value.int IntKind.i64 ↑i) :: (Value.pointer (some { block := bt, off := 0 })) :: (Value.int IntKind.i64 ↑k) :: (u8) :: (u9) :: (u10) :: (Value.tuple #[Value.slice (some { block := g, off := 0 }) N cc, Value.agg #[Value.int IntKind.i64 0, Value.int IntKind.i64 0]]) :: (Value.int IntKind.i64 ↑m) :: (Value.tuple #[Value.slice (some { block := g, off := 0 }) N cc, Value.agg #[Value.int IntKind.i64 0, Value.int IntKind.i64 0]]) :: (Value.slice (some { block := g, off := 0 }) N cc) :: (Value.agg #[Value.int IntKind.i64 0, Value.int IntKind.i64 0]) :: (Value.bool true) :: (Value.bool false) :: (Value.int IntKind.i64 ↑m) :: (Value.bool false) :: (Value.bool false) :: (Value.int IntKind.i64 ↑m) :: (Value.bool true) :: (Value.bool false) :: (Value.bool false) :: (undef) :: (undef) :: (undef) :: (undef) :: (undef) :: (undef) :: (undef) :: (undef) :: (Value.pointer (some { block := bf, off := 0 })) :: (Value.int IntKind.i64 0) :: (Value.bool false) :: (Value.bool false) :: (Value.slice (some { block := g, off := 0 }) N cc) :: (Value.int IntKind.i64 ↑N) :: (Value.bool false) :: (Value.bool false) :: (Value.int IntKind.i64 ↑m) :: (Value.bool false) :: (undef) :: (undef) :: (undef) :: (undef) :: (Value.slice (some { block := g, off := 0 }) N cc) :: (Value.int IntKind.i64 ↑N) :: (Value.bool false) :: (Value.bool false) :: (Value.slice (some { block := g, off := 0 }) N cc) :: (Value.pointer (some { block := g, off := 0 })) :: (Value.agg #[Value.int IntKind.i64 1, Value.int IntKind.i64 1, Value.int IntKind.i64 1]) :: (Value.agg #[Value.int IntKind.i64 1, Value.int IntKind.i64 1, Value.int IntKind.i64 1]) :: (Value.bool false) :: (Value.bool false) :: (Value.int IntKind.i64 ↑i) :: (Value.slice (some { block := g, off := 0 }) N cc) :: (Value.int IntKind.i64 ↑N) :: (Value.bool true) :: (u61) :: (u62) :: (Value.slice (some { block := g, off := 0 }) N cc) :: (Value.int IntKind.i64 ↑i) :: (Value.pointer (some { block := g, off := i * 3 })) :: (Value.agg #[Value.int IntKind.i64 ↑t.fst, Value.int IntKind.i64 ↑t.snd.fst, Value.int IntKind.i64 ↑t.snd.snd]) :: (u67) :: (u68) :: (u69) :: (u70) :: (u71) :: (u72) :: (u73) :: (u74) :: (u75) :: (u76) :: (u77) :: (u78) :: (u79) :: (u80) :: (u81) :: (u82) :: (u83) :: (u84) :: (u85) :: (u86) :: (u87) :: (u88) :: (u89) :: (u90) :: (u91) :: (u92) :: (u93) :: (u94) :: (u95) :: (u96) :: (u97) :: (u98) :: (u99) :: (u100) :: (u101) :: (u102) :: (u103) :: (u104) :: (u105) :: (u106) :: (u107) :: (Value.bool false) :: (Value.int IntKind.i64 ↑k) :: (Value.bool true) :: (u111) :: (u112) :: (.pointer (some ⟨b0, 0, none⟩)) :: (.pointer (some ⟨n0, 0, none⟩)) :: (u115) :: (.int .i64 (k : Int)) :: (.pointer (some ⟨bt, k, none⟩)) :: (.int .i64 (ak : Int)) :: (.pointer (some ⟨n1, 0, none⟩)) :: (.pointer (some ⟨bt, 2, none⟩)) :: (.int .i64 (z : Int)) :: (u122) :: (u123) :: (u124) :: (u125) :: (u126) :: (u127) :: (u128) :: (u129) :: (u130) :: (u131) :: (u132) :: (u133) :: (u134) :: (u135) :: (u136) :: (u137) :: (u138) :: (u139) :: (u140) :: (u141) :: (u142) :: (u143) :: (u144) :: (u145) :: (u146) :: (u147) :: (u148) :: (u149) :: (u150) :: (u151) :: (u152) :: (u153) :: (u154) :: (u155) :: (u156) :: (u157) :: (u158) :: (u159) :: (u160) :: (u161) :: (u162) :: (u163) :: (u164) :: (u165) :: (u166) :: (u167) :: (u168) :: (u169) :: []).toArray, defers := [] } ∧ Hid (Below wr.heap.size wr w1 ∧ wr.heap.size ≤ b0 ∧ Slot w1 b0 ∧ wr.heap.size ≤ n0 ∧ BigAt w1 n0 3 ∧ wr.heap.size ≤ n1 ∧ BigAt w1 n1 (ak : Int) ∧ b0 ≠ n0 ∧ b0 ≠ n1 ∧ n0 ≠ n1)) ∨ (∃ n0 b1 n1 : Nat, n = 5 ∧ l = #[false, true, true, true, true, true, true, true, true, false, false, false, false] ∧ a = { tmps := ((Value.int IntKind.i64 ↑m) :: (undef) :: (u2) :: (Value.slice (some { block := g, off := 0 }) N cc) :: (Value.pointer (some { block := bf, off := 0 })) :: (Value.int IntKind.i64 ↑i) :: (Value.pointer (some { block := bt, off := 0 })) :: (Value.int IntKind.i64 ↑k) :: (u8) :: (u9) :: (u10) :: (Value.tuple #[Value.slice (some { block := g, off := 0 }) N cc, Value.agg #[Value.int IntKind.i64 0, Value.int IntKind.i64 0]]) :: (Value.int IntKind.i64 ↑m) :: (Value.tuple #[Value.slice (some { block := g, off := 0 }) N cc, Value.agg #[Value.int IntKind.i64 0, Value.int IntKind.i64 0]]) :: (Value.slice (some { block := g, off := 0 }) N cc) :: (Value.agg #[Value.int IntKind.i64 0, Value.int IntKind.i64 0]) :: (Value.bool true) :: (Value.bool false) :: (Value.int IntKind.i64 ↑m) :: (Value.bool false) :: (Value.bool false) :: (Value.int IntKind.i64 ↑m) :: (Value.bool true) :: (Value.bool false) :: (Value.bool false) :: (undef) :: (undef) :: (undef) :: (undef) :: (undef) :: (undef) :: (undef) :: (undef) :: (Value.pointer (some { block := bf, off := 0 })) :: (Value.int IntKind.i64 0) :: (Value.bool false) :: (Value.bool false) :: (Value.slice (some { block := g, off := 0 }) N cc) :: (Value.int IntKind.i64 ↑N) :: (Value.bool false) :: (Value.bool false) :: (Value.int IntKind.i64 ↑m) :: (Value.bool false) :: (undef) :: (undef) :: (undef) :: (undef) :: (Value.slice (some { block := g, off := 0 }) N cc) :: (Value.int IntKind.i64 ↑N) :: (Value.bool false) :: (Value.bool false) :: (Value.slice (some { block := g, off := 0 }) N cc) :: (Value.pointer (some { block := g, off := 0 })) :: (Value.agg #[Value.int IntKind.i64 1, Value.int IntKind.i64 1, Value.int IntKind.i64 1]) :: (Value.agg #[Value.int IntKind.i64 1, Value.int IntKind.i64 1, Value.int IntKind.i64 1]) :: (Value.bool false) :: (Value.bool false) :: (Value.int IntKind.i64 ↑i) :: (Value.slice (some { block := g, off := 0 }) N cc) :: (Value.int IntKind.i64 ↑N) :: (Value.bool true) :: (u61) :: (u62) :: (Value.slice (some { block := g, off := 0 }) N cc) :: (Value.int IntKind.i64 ↑i) :: (Value.pointer (some { block := g, off := i * 3 })) :: (Value.agg #[Value.int IntKind.i64 ↑t.fst, Value.int IntKind.i64 ↑t.snd.fst, Value.int IntKind.i64 ↑t.snd.snd]) :: (u67) :: (u68) :: (u69) :: (u70) :: (u71) :: (u72) :: (u73) :: (u74) :: (u75) :: (u76) :: (u77) :: (u78) :: (u79) :: (u80) :: (u81) :: (u82) :: (u83) :: (u84) :: (u85) :: (u86) :: (u87) :: (u88) :: (u89) :: (u90) :: (u91) :: (u92) :: (u93) :: (u94) :: (u95) :: (u96) :: (u97) :: (u98) :: (u99) :: (u100) :: (u101) :: (u102) :: (u103) :: (u104) :: (u105) :: (u106) :: (u107) :: (Value.bool false) :: (Value.int IntKind.i64 ↑k) :: (Value.bool true) :: (u111) :: (u112) :: (u113) :: (.pointer (some ⟨n0, 0, none⟩)) :: (.pointer (some ⟨b1, 0, none⟩)) :: (.int .i64 (k : Int)) :: (.pointer (some ⟨bt, k, none⟩)) :: (.int .i64 (ak : Int)) :: (.pointer (some ⟨n1, 0, none⟩)) :: (.pointer (some ⟨bt, 2, none⟩)) :: (.int .i64 (z : Int)) :: (u122) :: (u123) :: (u124) :: (u125) :: (u126) :: (u127) :: (u128) :: (u129) :: (u130) :: (u131) :: (u132) :: (u133) :: (u134) :: (u135) :: (u136) :: (u137) :: (u138) :: (u139) :: (u140) :: (u141) :: (u142) :: (u143) :: (u144) :: (u145) :: (u146) :: (u147) :: (u148) :: (u149) :: (u150) :: (u151) :: (u152) :: (u153) :: (u154) :: (u155) :: (u156) :: (u157) :: (u158) :: (u159) :: (u160) :: (u161) :: (u162) :: (u163) :: (u164) :: (u165) :: (u166) :: (u167) :: (u168) :: (u169) :: []).toArray, defers := [] } ∧ Hid (Below wr.heap.size wr w1 ∧ wr.heap.size ≤ n0 ∧ BigAt w1 n0 3 ∧ wr.heap.size ≤ b1 ∧ Slot w1 b1 ∧ wr.heap.size ≤ n1 ∧ BigAt w1 n1 (ak : Int) ∧ n0 ≠ b1 ∧ n0 ≠ n1 ∧ b1 ≠ n1)) ∨ (∃ n0 n1 n2 : Nat, n = 5 ∧ l = #[false, true, false, true, true, true, true, true, true, true, false, false, false] ∧ a = { tmps := ((Value.int IntKind.i64 ↑m) :: (undef) :: (u2) :: (Value.slice (some { block := g, off := 0 }) N cc) :: (Value.pointer (some { block := bf, off := 0 })) :: (Value.int IntKind.i64 ↑i) :: (Value.pointer (some { block := bt, off := 0 })) :: (Value.int IntKind.i64 ↑k) :: (u8) :: (u9) :: (u10) :: (Value.tuple #[Value.slice (some { block := g, off := 0 }) N cc, Value.agg #[Value.int IntKind.i64 0, Value.int IntKind.i64 0]]) :: (Value.int IntKind.i64 ↑m) :: (Value.tuple #[Value.slice (some { block := g, off := 0 }) N cc, Value.agg #[Value.int IntKind.i64 0, Value.int IntKind.i64 0]]) :: (Value.slice (some { block := g, off := 0 }) N cc) :: (Value.agg #[Value.int IntKind.i64 0, Value.int IntKind.i64 0]) :: (Value.bool true) :: (Value.bool false) :: (Value.int IntKind.i64 ↑m) :: (Value.bool false) :: (Value.bool false) :: (Value.int IntKind.i64 ↑m) :: (Value.bool true) :: (Value.bool false) :: (Value.bool false) :: (undef) :: (undef) :: (undef) :: (undef) :: (undef) :: (undef) :: (undef) :: (undef) :: (Value.pointer (some { block := bf, off := 0 })) :: (Value.int IntKind.i64 0) :: (Value.bool false) :: (Value.bool false) :: (Value.slice (some { block := g, off := 0 }) N cc) :: (Value.int IntKind.i64 ↑N) :: (Value.bool false) :: (Value.bool false) :: (Value.int IntKind.i64 ↑m) :: (Value.bool false) :: (undef) :: (undef) :: (undef) :: (undef) :: (Value.slice (some { block := g, off := 0 }) N cc) :: (Value.int IntKind.i64 ↑N) :: (Value.bool false) :: (Value.bool false) :: (Value.slice (some { block := g, off := 0 }) N cc) :: (Value.pointer (some { block := g, off := 0 })) :: (Value.agg #[Value.int IntKind.i64 1, Value.int IntKind.i64 1, Value.int IntKind.i64 1]) :: (Value.agg #[Value.int IntKind.i64 1, Value.int IntKind.i64 1, Value.int IntKind.i64 1]) :: (Value.bool false) :: (Value.bool false) :: (Value.int IntKind.i64 ↑i) :: (Value.slice (some { block := g, off := 0 }) N cc) :: (Value.int IntKind.i64 ↑N) :: (Value.bool true) :: (u61) :: (u62) :: (Value.slice (some { block := g, off := 0 }) N cc) :: (Value.int IntKind.i64 ↑i) :: (Value.pointer (some { block := g, off := i * 3 })) :: (Value.agg #[Value.int IntKind.i64 ↑t.fst, Value.int IntKind.i64 ↑t.snd.fst, Value.int IntKind.i64 ↑t.snd.snd]) :: (u67) :: (u68) :: (u69) :: (u70) :: (u71) :: (u72) :: (u73) :: (u74) :: (u75) :: (u76) :: (u77) :: (u78) :: (u79) :: (u80) :: (u81) :: (u82) :: (u83) :: (u84) :: (u85) :: (u86) :: (u87) :: (u88) :: (u89) :: (u90) :: (u91) :: (u92) :: (u93) :: (u94) :: (u95) :: (u96) :: (u97) :: (u98) :: (u99) :: (u100) :: (u101) :: (u102) :: (u103) :: (u104) :: (u105) :: (u106) :: (u107) :: (Value.bool false) :: (Value.int IntKind.i64 ↑k) :: (Value.bool true) :: (u111) :: (u112) :: (u113) :: (.pointer (some ⟨n0, 0, none⟩)) :: (u115) :: (.int .i64 (k : Int)) :: (.pointer (some ⟨bt, k, none⟩)) :: (.int .i64 (ak : Int)) :: (.pointer (some ⟨n1, 0, none⟩)) :: (.pointer (some ⟨bt, 2, none⟩)) :: (.int .i64 (z : Int)) :: (.pointer (some ⟨n2, 0, none⟩)) :: (u123) :: (u124) :: (u125) :: (u126) :: (u127) :: (u128) :: (u129) :: (u130) :: (u131) :: (u132) :: (u133) :: (u134) :: (u135) :: (u136) :: (u137) :: (u138) :: (u139) :: (u140) :: (u141) :: (u142) :: (u143) :: (u144) :: (u145) :: (u146) :: (u147) :: (u148) :: (u149) :: (u150) :: (u151) :: (u152) :: (u153) :: (u154) :: (u155) :: (u156) :: (u157) :: (u158) :: (u159) :: (u160) :: (u161) :: (u162) :: (u163) :: (u164) :: (u165) :: (u166) :: (u167) :: (u168) :: (u169) :: []).toArray, defers := [] } ∧ Hid (Below wr.heap.size wr w1 ∧ wr.heap.size ≤ n0 ∧ BigAt w1 n0 3 ∧ wr.heap.size ≤ n1 ∧ BigAt w1 n1 (ak : Int) ∧ wr.heap.size ≤ n2 ∧ BigAt w1 n2 (z : Int) ∧ n0 ≠ n1 ∧ n0 ≠ n2 ∧ n1 ≠ n2)) ∨ (∃ b0 n0 b1 n1 : Nat, n = 4 ∧ l = #[true, true, true, true, true, true, true, true, true, false, false, false, false] ∧ a = { tmps := ((Value.int IntKind.i64 ↑m) :: (undef) :: (u2) :: (Value.slice (some { block := g, off := 0 }) N cc) :: (Value.pointer (some { block := bf, off := 0 })) :: (Value.int IntKind.i64 ↑i) :: (Value.pointer (some { block := bt, off := 0 })) :: (Value.int IntKind.i64 ↑k) :: (u8) :: (u9) :: (u10) :: (Value.tuple #[Value.slice (some { block := g, off := 0 }) N cc, Value.agg #[Value.int IntKind.i64 0, Value.int IntKind.i64 0]]) :: (Value.int IntKind.i64 ↑m) :: (Value.tuple #[Value.slice (some { block := g, off := 0 }) N cc, Value.agg #[Value.int IntKind.i64 0, Value.int IntKind.i64 0]]) :: (Value.slice (some { block := g, off := 0 }) N cc) :: (Value.agg #[Value.int IntKind.i64 0, Value.int IntKind.i64 0]) :: (Value.bool true) :: (Value.bool false) :: (Value.int IntKind.i64 ↑m) :: (Value.bool false) :: (Value.bool false) :: (Value.int IntKind.i64 ↑m) :: (Value.bool true) :: (Value.bool false) :: (Value.bool false) :: (undef) :: (undef) :: (undef) :: (undef) :: (undef) :: (undef) :: (undef) :: (undef) :: (Value.pointer (some { block := bf, off := 0 })) :: (Value.int IntKind.i64 0) :: (Value.bool false) :: (Value.bool false) :: (Value.slice (some { block := g, off := 0 }) N cc) :: (Value.int IntKind.i64 ↑N) :: (Value.bool false) :: (Value.bool false) :: (Value.int IntKind.i64 ↑m) :: (Value.bool false) :: (undef) :: (undef) :: (undef) :: (undef) :: (Value.slice (some { block := g, off := 0 }) N cc) :: (Value.int IntKind.i64 ↑N) :: (Value.bool false) :: (Value.bool false) :: (Value.slice (some { block := g, off := 0 }) N cc) :: (Value.pointer (some { block := g, off := 0 })) :: (Value.agg #[Value.int IntKind.i64 1, Value.int IntKind.i64 1, Value.int IntKind.i64 1]) :: (Value.agg #[Value.int IntKind.i64 1, Value.int IntKind.i64 1, Value.int IntKind.i64 1]) :: (Value.bool false) :: (Value.bool false) :: (Value.int IntKind.i64 ↑i) :: (Value.slice (some { block := g, off := 0 }) N cc) :: (Value.int IntKind.i64 ↑N) :: (Value.bool true) :: (u61) :: (u62) :: (Value.slice (some { block := g, off := 0 }) N cc) :: (Value.int IntKind.i64 ↑i) :: (Value.pointer (some { block := g, off := i * 3 })) :: (Value.agg #[Value.int IntKind.i64 ↑t.fst, Value.int IntKind.i64 ↑t.snd.fst, Value.int IntKind.i64 ↑t.snd.snd]) :: (u67) :: (u68) :: (u69) :: (u70) :: (u71) :: (u72) :: (u73) :: (u74) :: (u75) :: (u76) :: (u77) :: (u78) :: (u79) :: (u80) :: (u81) :: (u82) :: (u83) :: (u84) :: (u85) :: (u86) :: (u87) :: (u88) :: (u89) :: (u90) :: (u91) :: (u92) :: (u93) :: (u94) :: (u95) :: (u96) :: (u97) :: (u98) :: (u99) :: (u100) :: (u101) :: (u102) :: (u103) :: (u104) :: (u105) :: (u106) :: (u107) :: (Value.bool false) :: (Value.int IntKind.i64 ↑k) :: (Value.bool true) :: (u111) :: (u112) :: (.pointer (some ⟨b0, 0, none⟩)) :: (.pointer (some ⟨n0, 0, none⟩)) :: (.pointer (some ⟨b1, 0, none⟩)) :: (.int .i64 (k : Int)) :: (.pointer (some ⟨bt, k, none⟩)) :: (.int .i64 (ak : Int)) :: (.pointer (some ⟨n1, 0, none⟩)) :: (.pointer (some ⟨bt, 2, none⟩)) :: (.int .i64 (z : Int)) :: (u122) :: (u123) :: (u124) :: (u125) :: (u126) :: (u127) :: (u128) :: (u129) :: (u130) :: (u131) :: (u132) :: (u133) :: (u134) :: (u135) :: (u136) :: (u137) :: (u138) :: (u139) :: (u140) :: (u141) :: (u142) :: (u143) :: (u144) :: (u145) :: (u146) :: (u147) :: (u148) :: (u149) :: (u150) :: (u151) :: (u152) :: (u153) :: (u154) :: (u155) :: (u156) :: (u157) :: (u158) :: (u159) :: (u160) :: (u161) :: (u162) :: (u163) :: (u164) :: (u165) :: (u166) :: (u167) :: (u168) :: (u169) :: []).toArray, defers := [] } ∧ Hid (Below wr.heap.size wr w1 ∧ wr.heap.size ≤ b0 ∧ Slot w1 b0 ∧ wr.heap.size ≤ n0 ∧ BigAt w1 n0 3 ∧ wr.heap.size ≤ b1 ∧ Slot w1 b1 ∧ wr.heap.size ≤ n1 ∧ BigAt w1 n1 (ak : Int) ∧ b0 ≠ n0 ∧ b0 ≠ b1 ∧ b0 ≠ n1 ∧ n0 ≠ b1 ∧ n0 ≠ n1 ∧ b1 ≠ n1)) ∨ (∃ b0 n0 n1 n2 : Nat, n = 4 ∧ l = #[true, true, false, true, true, true, true, true, true, true, false, false, false] ∧ a = { tmps := ((Value.int IntKind.i64 ↑m) :: (undef) :: (u2) :: (Value.slice (some { block := g, off := 0 }) N cc) :: (Value.pointer (some { block := bf, off := 0 })) :: (Value.int IntKind.i64 ↑i) :: (Value.pointer (some { block := bt, off := 0 })) :: (Value.int IntKind.i64 ↑k) :: (u8) :: (u9) :: (u10) :: (Value.tuple #[Value.slice (some { block := g, off := 0 }) N cc, Value.agg #[Value.int IntKind.i64 0, Value.int IntKind.i64 0]]) :: (Value.int IntKind.i64 ↑m) :: (Value.tuple #[Value.slice (some { block := g, off := 0 }) N cc, Value.agg #[Value.int IntKind.i64 0, Value.int IntKind.i64 0]]) :: (Value.slice (some { block := g, off := 0 }) N cc) :: (Value.agg #[Value.int IntKind.i64 0, Value.int IntKind.i64 0]) :: (Value.bool true) :: (Value.bool false) :: (Value.int IntKind.i64 ↑m) :: (Value.bool false) :: (Value.bool false) :: (Value.int IntKind.i64 ↑m) :: (Value.bool true) :: (Value.bool false) :: (Value.bool false) :: (undef) :: (undef) :: (undef) :: (undef) :: (undef) :: (undef) :: (undef) :: (undef) :: (Value.pointer (some { block := bf, off := 0 })) :: (Value.int IntKind.i64 0) :: (Value.bool false) :: (Value.bool false) :: (Value.slice (some { block := g, off := 0 }) N cc) :: (Value.int IntKind.i64 ↑N) :: (Value.bool false) :: (Value.bool false) :: (Value.int IntKind.i64 ↑m) :: (Value.bool false) :: (undef) :: (undef) :: (undef) :: (undef) :: (Value.slice (some { block := g, off := 0 }) N cc) :: (Value.int IntKind.i64 ↑N) :: (Value.bool false) :: (Value.bool false) :: (Value.slice (some { block := g, off := 0 }) N cc) :: (Value.pointer (some { block := g, off := 0 })) :: (Value.agg #[Value.int IntKind.i64 1, Value.int IntKind.i64 1, Value.int IntKind.i64 1]) :: (Value.agg #[Value.int IntKind.i64 1, Value.int IntKind.i64 1, Value.int IntKind.i64 1]) :: (Value.bool false) :: (Value.bool false) :: (Value.int IntKind.i64 ↑i) :: (Value.slice (some { block := g, off := 0 }) N cc) :: (Value.int IntKind.i64 ↑N) :: (Value.bool true) :: (u61) :: (u62) :: (Value.slice (some { block := g, off := 0 }) N cc) :: (Value.int IntKind.i64 ↑i) :: (Value.pointer (some { block := g, off := i * 3 })) :: (Value.agg #[Value.int IntKind.i64 ↑t.fst, Value.int IntKind.i64 ↑t.snd.fst, Value.int IntKind.i64 ↑t.snd.snd]) :: (u67) :: (u68) :: (u69) :: (u70) :: (u71) :: (u72) :: (u73) :: (u74) :: (u75) :: (u76) :: (u77) :: (u78) :: (u79) :: (u80) :: (u81) :: (u82) :: (u83) :: (u84) :: (u85) :: (u86) :: (u87) :: (u88) :: (u89) :: (u90) :: (u91) :: (u92) :: (u93) :: (u94) :: (u95) :: (u96) :: (u97) :: (u98) :: (u99) :: (u100) :: (u101) :: (u102) :: (u103) :: (u104) :: (u105) :: (u106) :: (u107) :: (Value.bool false) :: (Value.int IntKind.i64 ↑k) :: (Value.bool true) :: (u111) :: (u112) :: (.pointer (some ⟨b0, 0, none⟩)) :: (.pointer (some ⟨n0, 0, none⟩)) :: (u115) :: (.int .i64 (k : Int)) :: (.pointer (some ⟨bt, k, none⟩)) :: (.int .i64 (ak : Int)) :: (.pointer (some ⟨n1, 0, none⟩)) :: (.pointer (some ⟨bt, 2, none⟩)) :: (.int .i64 (z : Int)) :: (.pointer (some ⟨n2, 0, none⟩)) :: (u123) :: (u124) :: (u125) :: (u126) :: (u127) :: (u128) :: (u129) :: (u130) :: (u131) :: (u132) :: (u133) :: (u134) :: (u135) :: (u136) :: (u137) :: (u138) :: (u139) :: (u140) :: (u141) :: (u142) :: (u143) :: (u144) :: (u145) :: (u146) :: (u147) :: (u148) :: (u149) :: (u150) :: (u151) :: (u152) :: (u153) :: (u154) :: (u155) :: (u156) :: (u157) :: (u158) :: (u159) :: (u160) :: (u161) :: (u162) :: (u163) :: (u164) :: (u165) :: (u166) :: (u167) :: (u168) :: (u169) :: []).toArray, defers := [] } ∧ Hid (Below wr.heap.size wr w1 ∧ wr.heap.size ≤ b0 ∧ Slot w1 b0 ∧ wr.heap.size ≤ n0 ∧ BigAt w1 n0 3 ∧ wr.heap.size ≤ n1 ∧ BigAt w1 n1 (ak : Int) ∧ wr.heap.size ≤ n2 ∧ BigAt w1 n2 (z : Int) ∧ b0 ≠ n0 ∧ b0 ≠ n1 ∧ b0 ≠ n2 ∧ n0 ≠ n1 ∧ n0 ≠ n2 ∧ n1 ≠ n2)) ∨ (∃ n0 b1 n1 n2 : Nat, n = 4 ∧ l = #[false, true, true, true, true, true, true, true, true, true, false, false, false] ∧ a = { tmps := ((Value.int IntKind.i64 ↑m) :: (undef) :: (u2) :: (Value.slice (some { block := g, off := 0 }) N cc) :: (Value.pointer (some { block := bf, off := 0 })) :: (Value.int IntKind.i64 ↑i) :: (Value.pointer (some { block := bt, off := 0 })) :: (Value.int IntKind.i64 ↑k) :: (u8) :: (u9) :: (u10) :: (Value.tuple #[Value.slice (some { block := g, off := 0 }) N cc, Value.agg #[Value.int IntKind.i64 0, Value.int IntKind.i64 0]]) :: (Value.int IntKind.i64 ↑m) :: (Value.tuple #[Value.slice (some { block := g, off := 0 }) N cc, Value.agg #[Value.int IntKind.i64 0, Value.int IntKind.i64 0]]) :: (Value.slice (some { block := g, off := 0 }) N cc) :: (Value.agg #[Value.int IntKind.i64 0, Value.int IntKind.i64 0]) :: (Value.bool true) :: (Value.bool false) :: (Value.int IntKind.i64 ↑m) :: (Value.bool false) :: (Value.bool false) :: (Value.int IntKind.i64 ↑m) :: (Value.bool true) :: (Value.bool false) :: (Value.bool false) :: (undef) :: (undef) :: (undef) :: (undef) :: (undef) :: (undef) :: (undef) :: (undef) :: (Value.pointer (some { block := bf, off := 0 })) :: (Value.int IntKind.i64 0) :: (Value.bool false) :: (Value.bool false) :: (Value.slice (some { block := g, off := 0 }) N cc) :: (Value.int IntKind.i64 ↑N) :: (Value.bool false) :: (Value.bool false) :: (Value.int IntKind.i64 ↑m) :: (Value.bool false) :: (undef) :: (undef) :: (undef) :: (undef) :: (Value.slice (some { block := g, off := 0 }) N cc) :: (Value.int IntKind.i64 ↑N) :: (Value.bool false) :: (Value.bool false) :: (Value.slice (some { block := g, off := 0 }) N cc) :: (Value.pointer (some { block := g, off := 0 })) :: (Value.agg #[Value.int IntKind.i64 1, Value.int IntKind.i64 1, Value.int IntKind.i64 1]) :: (Value.agg #[Value.int IntKind.i64 1, Value.int IntKind.i64 1, Value.int IntKind.i64 1]) :: (Value.bool false) :: (Value.bool false) :: (Value.int IntKind.i64 ↑i) :: (Value.slice (some { block := g, off := 0 }) N cc) :: (Value.int IntKind.i64 ↑N) :: (Value.bool true) :: (u61) :: (u62) :: (Value.slice (some { block := g, off := 0 }) N cc) :: (Value.int IntKind.i64 ↑i) :: (Value.pointer (some { block := g, off := i * 3 })) :: (Value.agg #[Value.int IntKind.i64 ↑t.fst, Value.int IntKind.i64 ↑t.snd.fst, Value.int IntKind.i64 ↑t.snd.snd]) :: (u67) :: (u68) :: (u69) :: (u70) :: (u71) :: (u72) :: (u73) :: (u74) :: (u75) :: (u76) :: (u77) :: (u78) :: (u79) :: (u80) :: (u81) :: (u82) :: (u83) :: (u84) :: (u85) :: (u86) :: (u87) :: (u88) :: (u89) :: (u90) :: (u91) :: (u92) :: (u93) :: (u94) :: (u95) :: (u96) :: (u97) :: (u98) :: (u99) :: (u100) :: (u101) :: (u102) :: (u103) :: (u104) :: (u105) :: (u106) :: (u107) :: (Value.bool false) :: (Value.int IntKind.i64 ↑k) :: (Value.bool true) :: (u111) :: (u112) :: (u113) :: (.pointer (some ⟨n0, 0, none⟩)) :: (.pointer (some ⟨b1, 0, none⟩)) :: (.int .i64 (k : Int)) :: (.pointer (some ⟨bt, k, none⟩)) :: (.int .i64 (ak : Int)) :: (.pointer (some ⟨n1, 0, none⟩)) :: (.pointer (some ⟨bt, 2, none⟩)) :: (.int .i64 (z : Int)) :: (.pointer (some ⟨n2, 0, none⟩)) :: (u123) :: (u124) :: (u125) :: (u126) :: (u127) :: (u128) :: (u129) :: (u130) :: (u131) :: (u132) :: (u133) :: (u134) :: (u135) :: (u136) :: (u137) :: (u138) :: (u139) :: (u140) :: (u141) :: (u142) :: (u143) :: (u144) :: (u145) :: (u146) :: (u147) :: (u148) :: (u149) :: (u150) :: (u151) :: (u152) :: (u153) :: (u154) :: (u155) :: (u156) :: (u157) :: (u158) :: (u159) :: (u160) :: (u161) :: (u162) :: (u163) :: (u164) :: (u165) :: (u166) :: (u167) :: (u168) :: (u169) :: []).toArray, defers := [] } ∧ Hid (Below wr.heap.size wr w1 ∧ wr.heap.size ≤ n0 ∧ BigAt w1 n0 3 ∧ wr.heap.size ≤ b1 ∧ Slot w1 b1 ∧ wr.heap.size ≤ n1 ∧ BigAt w1 n1 (ak : Int) ∧ wr.heap.size ≤ n2 ∧ BigAt w1 n2 (z : Int) ∧ n0 ≠ b1 ∧ n0 ≠ n1 ∧ n0 ≠ n2 ∧ b1 ≠ n1 ∧ b1 ≠ n2 ∧ n1 ≠ n2)) ∨ (∃ b0 n0 b1 n1 n2 : Nat, n = 3 ∧ l = #[true, true, true, true, true, true, true, true, true, true, false, false, false] ∧ a = { tmps := ((Value.int IntKind.i64 ↑m) :: (undef) :: (u2) :: (Value.slice (some { block := g, off := 0 }) N cc) :: (Value.pointer (some { block := bf, off := 0 })) :: (Value.int IntKind.i64 ↑i) :: (Value.pointer (some { block := bt, off := 0 })) :: (Value.int IntKind.i64 ↑k) :: (u8) :: (u9) :: (u10) :: (Value.tuple #[Value.slice (some { block := g, off := 0 }) N cc, Value.agg #[Value.int IntKind.i64 0, Value.int IntKind.i64 0]]) :: (Value.int IntKind.i64 ↑m) :: (Value.tuple #[Value.slice (some { block := g, off := 0 }) N cc, Value.agg #[Value.int IntKind.i64 0, Value.int IntKind.i64 0]]) :: (Value.slice (some { block := g, off := 0 }) N cc) :: (Value.agg #[Value.int IntKind.i64 0, Value.int IntKind.i64 0]) :: (Value.bool true) :: (Value.bool false) :: (Value.int IntKind.i64 ↑m) :: (Value.bool false) :: (Value.bool false) :: (Value.int IntKind.i64 ↑m) :: (Value.bool true) :: (Value.bool false) :: (Value.bool false) :: (undef) :: (undef) :: (undef) :: (undef) :: (undef) :: (undef) :: (undef) :: (undef) :: (Value.pointer (some { block := bf, off := 0 })) :: (Value.int IntKind.i64 0) :: (Value.bool false) :: (Value.bool false) :: (Value.slice (some { block := g, off := 0 }) N cc) :: (Value.int IntKind.i64 ↑N) :: (Value.bool false) :: (Value.bool false) :: (Value.int IntKind.i64 ↑m) :: (Value.bool false) :: (undef) :: (undef) :: (undef) :: (undef) :: (Value.slice (some { block := g, off := 0 }) N cc) :: (Value.int IntKind.i64 ↑N) :: (Value.bool false) :: (Value.bool false) :: (Value.slice (some { block := g, off := 0 }) N cc) :: (Value.pointer (some { block := g, off := 0 })) :: (Value.agg #[Value.int IntKind.i64 1, Value.int IntKind.i64 1, Value.int IntKind.i64 1]) :: (Value.agg #[Value.int IntKind.i64 1, Value.int IntKind.i64 1, Value.int IntKind.i64 1]) :: (Value.bool false) :: (Value.bool false) :: (Value.int IntKind.i64 ↑i) :: (Value.slice (some { block := g, off := 0 }) N cc) :: (Value.int IntKind.i64 ↑N) :: (Value.bool true) :: (u61) :: (u62) :: (Value.slice (some { block := g, off := 0 }) N cc) :: (Value.int IntKind.i64 ↑i) :: (Value.pointer (some { block := g, off := i * 3 })) :: (Value.agg #[Value.int IntKind.i64 ↑t.fst, Value.int IntKind.i64 ↑t.snd.fst, Value.int IntKind.i64 ↑t.snd.snd]) :: (u67) :: (u68) :: (u69) :: (u70) :: (u71) :: (u72) :: (u73) :: (u74) :: (u75) :: (u76) :: (u77) :: (u78) :: (u79) :: (u80) :: (u81) :: (u82) :: (u83) :: (u84) :: (u85) :: (u86) :: (u87) :: (u88) :: (u89) :: (u90) :: (u91) :: (u92) :: (u93) :: (u94) :: (u95) :: (u96) :: (u97) :: (u98) :: (u99) :: (u100) :: (u101) :: (u102) :: (u103) :: (u104) :: (u105) :: (u106) :: (u107) :: (Value.bool false) :: (Value.int IntKind.i64 ↑k) :: (Value.bool true) :: (u111) :: (u112) :: (.pointer (some ⟨b0, 0, none⟩)) :: (.pointer (some ⟨n0, 0, none⟩)) :: (.pointer (some ⟨b1, 0, none⟩)) :: (.int .i64 (k : Int)) :: (.pointer (some ⟨bt, k, none⟩)) :: (.int .i64 (ak : Int)) :: (.pointer (some ⟨n1, 0, none⟩)) :: (.pointer (some ⟨bt, 2, none⟩)) :: (.int .i64 (z : Int)) :: (.pointer (some ⟨n2, 0, none⟩)) :: (u123) :: (u124) :: (u125) :: (u126) :: (u127) :: (u128) :: (u129) :: (u130) :: (u131) :: (u132) :: (u133) :: (u134) :: (u135) :: (u136) :: (u137) :: (u138) :: (u139) :: (u140) :: (u141) :: (u142) :: (u143) :: (u144) :: (u145) :: (u146) :: (u147) :: (u148) :: (u149) :: (u150) :: (u151) :: (u152) :: (u153) :: (u154) :: (u155) :: (u156) :: (u157) :: (u158) :: (u159) :: (u160) :: (u161) :: (u162) :: (u163) :: (u164) :: (u165) :: (u166) :: (u167) :: (u168) :: (u169) :: []).toArray, defers := [] } ∧ Hid (Below wr.heap.size wr w1 ∧ wr.heap.size ≤ b0 ∧ Slot w1 b0 ∧ wr.heap.size ≤ n0 ∧ BigAt w1 n0 3 ∧ wr.heap.size ≤ b1 ∧ Slot w1 b1 ∧ wr.heap.size ≤ n1 ∧ BigAt w1 n1 (ak : Int) ∧ wr.heap.size ≤ n2 ∧ BigAt w1 n2 (z : Int) ∧ b0 ≠ n0 ∧ b0 ≠ b1 ∧ b0 ≠ n1 ∧ b0 ≠ n2 ∧ n0 ≠ b1 ∧ n0 ≠ n1 ∧ n0 ≠ n2 ∧ b1 ≠ n1 ∧ b1 ≠ n2 ∧ n1 ≠ n2)) ∨ (∃ n0 b1 n1 n2 : Nat, n = 3 ∧ l = #[false, true, true, true, true, true, true, true, true, true, true, false, false] ∧ a = { tmps := ((Value.int IntKind.i64 ↑m) :: (undef) :: (u2) :: (Value.slice (some { block := g, off := 0 }) N cc) :: (Value.pointer (some { block := bf, off := 0 })) :: (Value.int IntKind.i64 ↑i) :: (Value.pointer (some { block := bt, off := 0 })) :: (Value.int IntKind.i64 ↑k) :: (u8) :: (u9) :: (u10) :: (Value.tuple #[Value.slice (some { block := g, off := 0 }) N cc, Value.agg #[Value.int IntKind.i64 0, Value.int IntKind.i64 0]]) :: (Value.int IntKind.i64 ↑m) :: (Value.tuple #[Value.slice (some { block := g, off := 0 }) N cc, Value.agg #[Value.int IntKind.i64 0, Value.int IntKind.i64 0]]) :: (Value.slice (some { block := g, off := 0 }) N cc) :: (Value.agg #[Value.int IntKind.i64 0, Value.int IntKind.i64 0]) :: (Value.bool true) :: (Value.bool false) :: (Value.int IntKind.i64 ↑m) :: (Value.bool false) :: (Value.bool false) :: (Value.int IntKind.i64 ↑m) :: (Value.bool true) :: (Value.bool false) :: (Value.bool false) :: (undef) :: (undef) :: (undef) :: (undef) :: (undef) :: (undef) :: (undef) :: (undef) :: (Value.pointer (some { block := bf, off := 0 })) :: (Value.int IntKind.i64 0) :: (Value.bool false) :: (Value.bool false) :: (Value.slice (some { block := g, off := 0 }) N cc) :: (Value.int IntKind.i64 ↑N) :: (Value.bool false) :: (Value.bool false) :: (Value.int IntKind.i64 ↑m) :: (Value.bool false) :: (undef) :: (undef) :: (undef) :: (undef) :: (Value.slice (some { block := g, off := 0 }) N cc) :: (Value.int IntKind.i64 ↑N) :: (Value.bool false) :: (Value.bool false) :: (Value.slice (some { block := g, off := 0 }) N cc) :: (Value.pointer (some { block := g, off := 0 })) :: (Value.agg #[Value.int IntKind.i64 1, Value.int IntKind.i64 1, Value.int IntKind.i64 1]) :: (Value.agg #[Value.int IntKind.i64 1, Value.int IntKind.i64 1, Value.int IntKind.i64 1]) :: (Value.bool false) :: (Value.bool false) :: (Value.int IntKind.i64 ↑i) :: (Value.slice (some { block := g, off := 0 }) N cc) :: (Value.int IntKind.i64 ↑N) :: (Value.bool true) :: (u61) :: (u62) :: (Value.slice (some { block := g, off := 0 }) N cc) :: (Value.int IntKind.i64 ↑i) :: (Value.pointer (some { block := g, off := i * 3 })) :: (Value.agg #[Value.int IntKind.i64 ↑t.fst, Value.int IntKind.i64 ↑t.snd.fst, Value.int IntKind.i64 ↑t.snd.snd]) :: (u67) :: (u68) :: (u69) :: (u70) :: (u71) :: (u72) :: (u73) :: (u74) :: (u75) :: (u76) :: (u77) :: (u78) :: (u79) :: (u80) :: (u81) :: (u82) :: (u83) :: (u84) :: (u85) :: (u86) :: (u87) :: (u88) :: (u89) :: (u90) :: (u91) :: (u92) :: (u93) :: (u94) :: (u95) :: (u96) :: (u97) :: (u98) :: (u99) :: (u100) :: (u101) :: (u102) :: (u103) :: (u104) :: (u105) :: (u106) :: (u107) :: (Value.bool false) :: (Value.int IntKind.i64 ↑k) :: (Value.bool true) :: (u111) :: (u112) :: (u113) :: (.pointer (some ⟨n0, 0, none⟩)) :: (.pointer (some ⟨b1, 0, none⟩)) :: (.int .i64 (k : Int)) :: (.pointer (some ⟨bt, k, none⟩)) :: (.int .i64 (ak : Int)) :: (.pointer (some ⟨n1, 0, none⟩)) :: (.pointer (some ⟨bt, 2, none⟩)) :: (.int .i64 (z : Int)) :: (.pointer (some ⟨n2, 0, none⟩)) :: (.pointer (some ⟨b1, 0, none⟩)) :: (u124) :: (u125) :: (u126) :: (u127) :: (u128) :: (u129) :: (u130) :: (u131) :: (u132) :: (u133) :: (u134) :: (u135) :: (u136) :: (u137) :: (u138) :: (u139) :: (u140) :: (u141) :: (u142) :: (u143) :: (u144) :: (u145) :: (u146) :: (u147) :: (u148) :: (u149) :: (u150) :: (u151) :: (u152) :: (u153) :: (u154) :: (u155) :: (u156) :: (u157) :: (u158) :: (u159) :: (u160) :: (u161) :: (u162) :: (u163) :: (u164) :: (u165) :: (u166) :: (u167) :: (u168) :: (u169) :: []).toArray, defers := [] } ∧ Hid (Below wr.heap.size wr w1 ∧ wr.heap.size ≤ n0 ∧ BigAt w1 n0 3 ∧ wr.heap.size ≤ b1 ∧ BigAt w1 b1 ((ak : Int) * (z : Int)) ∧ wr.heap.size ≤ n1 ∧ BigAt w1 n1 (ak : Int) ∧ wr.heap.size ≤ n2 ∧ BigAt w1 n2 (z : Int) ∧ n0 ≠ b1 ∧ n0 ≠ n1 ∧ n0 ≠ n2 ∧ b1 ≠ n1 ∧ b1 ≠ n2 ∧ n1 ≠ n2)) ∨ (∃ b0 n0 b1 n1 n2 : Nat, n = 2 ∧ l = #[true, true, true, true, true, true, true, true, true, true, true, false, false] ∧ a = { tmps := ((Value.int IntKind.i64 ↑m) :: (undef) :: (u2) :: (Value.slice (some { block := g, off := 0 }) N cc) :: (Value.pointer (some { block := bf, off := 0 })) :: (Value.int IntKind.i64 ↑i) :: (Value.pointer (some { block := bt, off := 0 })) :: (Value.int IntKind.i64 ↑k) :: (u8) :: (u9) :: (u10) :: (Value.tuple #[Value.slice (some { block := g, off := 0 }) N cc, Value.agg #[Value.int IntKind.i64 0, Value.int IntKind.i64 0]]) :: (Value.int IntKind.i64 ↑m) :: (Value.tuple #[Value.slice (some { block := g, off := 0 }) N cc, Value.agg #[Value.int IntKind.i64 0, Value.int IntKind.i64 0]]) :: (Value.slice (some { block := g, off := 0 }) N cc) :: (Value.agg #[Value.int IntKind.i64 0, Value.int IntKind.i64 0]) :: (Value.bool true) :: (Value.bool false) :: (Value.int IntKind.i64 ↑m) :: (Value.bool false) :: (Value.bool false) :: (Value.int IntKind.i64 ↑m) :: (Value.bool true) :: (Value.bool false) :: (Value.bool false) :: (undef) :: (undef) :: (undef) :: (undef) :: (undef) :: (undef) :: (undef) :: (undef) :: (Value.pointer (some { block := bf, off := 0 })) :: (Value.int IntKind.i64 0) :: (Value.bool false) :: (Value.bool false) :: (Value.slice (some { block := g, off := 0 }) N cc) :: (Value.int IntKind.i64 ↑N) :: (Value.bool false) :: (Value.bool false) :: (Value.int IntKind.i64 ↑m) :: (Value.bool false) :: (undef) :: (undef) :: (undef) :: (undef) :: (Value.slice (some { block := g, off := 0 }) N cc) :: (Value.int IntKind.i64 ↑N) :: (Value.bool false) :: (Value.bool false) :: (Value.slice (some { block := g, off := 0 }) N cc) :: (Value.pointer (some { block := g, off := 0 })) :: (Value.agg #[Value.int IntKind.i64 1, Value.int IntKind.i64 1, Value.int IntKind.i64 1]) :: (Value.agg #[Value.int IntKind.i64 1, Value.int IntKind.i64 1, Value.int IntKind.i64 1]) :: (Value.bool false) :: (Value.bool false) :: (Value.int IntKind.i64 ↑i) :: (Value.slice (some { block := g, off := 0 }) N cc) :: (Value.int IntKind.i64 ↑N) :: (Value.bool true) :: (u61) :: (u62) :: (Value.slice (some { block := g, off := 0 }) N cc) :: (Value.int IntKind.i64 ↑i) :: (Value.pointer (some { block := g, off := i * 3 })) :: (Value.agg #[Value.int IntKind.i64 ↑t.fst, Value.int IntKind.i64 ↑t.snd.fst, Value.int IntKind.i64 ↑t.snd.snd]) :: (u67) :: (u68) :: (u69) :: (u70) :: (u71) :: (u72) :: (u73) :: (u74) :: (u75) :: (u76) :: (u77) :: (u78) :: (u79) :: (u80) :: (u81) :: (u82) :: (u83) :: (u84) :: (u85) :: (u86) :: (u87) :: (u88) :: (u89) :: (u90) :: (u91) :: (u92) :: (u93) :: (u94) :: (u95) :: (u96) :: (u97) :: (u98) :: (u99) :: (u100) :: (u101) :: (u102) :: (u103) :: (u104) :: (u105) :: (u106) :: (u107) :: (Value.bool false) :: (Value.int IntKind.i64 ↑k) :: (Value.bool true) :: (u111) :: (u112) :: (.pointer (some ⟨b0, 0, none⟩)) :: (.pointer (some ⟨n0, 0, none⟩)) :: (.pointer (some ⟨b1, 0, none⟩)) :: (.int .i64 (k : Int)) :: (.pointer (some ⟨bt, k, none⟩)) :: (.int .i64 (ak : Int)) :: (.pointer (some ⟨n1, 0, none⟩)) :: (.pointer (some ⟨bt, 2, none⟩)) :: (.int .i64 (z : Int)) :: (.pointer (some ⟨n2, 0, none⟩)) :: (.pointer (some ⟨b1, 0, none⟩)) :: (u124) :: (u125) :: (u126) :: (u127) :: (u128) :: (u129) :: (u130) :: (u131) :: (u132) :: (u133) :: (u134) :: (u135) :: (u136) :: (u137) :: (u138) :: (u139) :: (u140) :: (u141) :: (u142) :: (u143) :: (u144) :: (u145) :: (u146) :: (u147) :: (u148) :: (u149) :: (u150) :: (u151) :: (u152) :: (u153) :: (u154) :: (u155) :: (u156) :: (u157) :: (u158) :: (u159) :: (u160) :: (u161) :: (u162) :: (u163) :: (u164) :: (u165) :: (u166) :: (u167) :: (u168) :: (u169) :: []).toArray, defers := [] } ∧ Hid (Below wr.heap.size wr w1 ∧ wr.heap.size ≤ b0 ∧ Slot w1 b0 ∧ wr.heap.size ≤ n0 ∧ BigAt w1 n0 3 ∧ wr.heap.size ≤ b1 ∧ BigAt w1 b1 ((ak : Int) * (z : Int)) ∧ wr.heap.size ≤ n1 ∧ BigAt w1 n1 (ak : Int) ∧ wr.heap.size ≤ n2 ∧ BigAt w1 n2 (z : Int) ∧ b0 ≠ n0 ∧ b0 ≠ b1 ∧ b0 ≠ n1 ∧ b0 ≠ n2 ∧ n0 ≠ b1 ∧ n0 ≠ n1 ∧ n0 ≠ n2 ∧ b1 ≠ n1 ∧ b1 ≠ n2 ∧ n1 ≠ n2)) ∨ (∃ b0 n0 b1 n1 n2 : Nat, n = 1 ∧ l = #[true, true, true, true, true, true, true, true, true, true, true, true, false] ∧ a = { tmps := ((Value.int IntKind.i64 ↑m) :: (undef) :: (u2) :: (Value.slice (some { block := g, off := 0 }) N cc) :: (Value.pointer (some { block := bf, off := 0 })) :: (Value.int IntKind.i64 ↑i) :: (Value.pointer (some { block := bt, off := 0 })) :: (Value.int IntKind.i64 ↑k) :: (u8) :: (u9) :: (u10) :: (Value.tuple #[Value.slice (some { block := g, off := 0 }) N cc, Value.agg #[Value.int IntKind.i64 0, Value.int IntKind.i64 0]]) :: (Value.int IntKind.i64 ↑m) :: (Value.tuple #[Value.slice (some { block := g, off := 0 }) N cc, Value.agg #[Value.int IntKind.i64 0, Value.int IntKind.i64 0]]) :: (Value.slice (some { block := g, off := 0 }) N cc) :: (Value.agg #[Value.int IntKind.i64 0, Value.int IntKind.i64 0]) :: (Value.bool true) :: (Value.bool false) :: (Value.int IntKind.i64 ↑m) :: (Value.bool false) :: (Value.bool false) :: (Value.int IntKind.i64 ↑m) :: (Value.bool true) :: (Value.bool false) :: (Value.bool false) :: (undef) :: (undef) :: (undef) :: (undef) :: (undef) :: (undef) :: (undef) :: (undef) :: (Value.pointer (some { block := bf, off := 0 })) :: (Value.int IntKind.i64 0) :: (Value.bool false) :: (Value.bool false) :: (Value.slice (some { block := g, off := 0 }) N cc) :: (Value.int IntKind.i64 ↑N) :: (Value.bool false) :: (Value.bool false) :: (Value.int IntKind.i64 ↑m) :: (Value.bool false) :: (undef) :: (undef) :: (undef) :: (undef) :: (Value.slice (some { block := g, off := 0 }) N cc) :: (Value.int IntKind.i64 ↑N) :: (Value.bool false) :: (Value.bool false) :: (Value.slice (some { block := g, off := 0 }) N cc) :: (Value.pointer (some { block := g, off := 0 })) :: (Value.agg #[Value.int IntKind.i64 1, Value.int IntKind.i64 1, Value.int IntKind.i64 1]) :: (Value.agg #[Value.int IntKind.i64 1, Value.int IntKind.i64 1, Value.int IntKind.i64 1]) :: (Value.bool false) :: (Value.bool false) :: (Value.int IntKind.i64 ↑i) :: (Value.slice (some { block := g, off := 0 }) N cc) :: (Value.int IntKind.i64 ↑N) :: (Value.bool true) :: (u61) :: (u62) :: (Value.slice (some { block := g, off := 0 }) N cc) :: (Value.int IntKind.i64 ↑i) :: (Value.pointer (some { block := g, off := i * 3 })) :: (Value.agg #[Value.int IntKind.i64 ↑t.fst, Value.int IntKind.i64 ↑t.snd.fst, Value.int IntKind.i64 ↑t.snd.snd]) :: (u67) :: (u68) :: (u69) :: (u70) :: (u71) :: (u72) :: (u73) :: (u74) :: (u75) :: (u76) :: (u77) :: (u78) :: (u79) :: (u80) :: (u81) :: (u82) :: (u83) :: (u84) :: (u85) :: (u86) :: (u87) :: (u88) :: (u89) :: (u90) :: (u91) :: (u92) :: (u93) :: (u94) :: (u95) :: (u96) :: (u97) :: (u98) :: (u99) :: (u100) :: (u101) :: (u102) :: (u103) :: (u104) :: (u105) :: (u106) :: (u107) :: (Value.bool false) :: (Value.int IntKind.i64 ↑k) :: (Value.bool true) :: (u111) :: (u112) :: (.pointer (some ⟨b0, 0, none⟩)) :: (.pointer (some ⟨n0, 0, none⟩)) :: (.pointer (some ⟨b1, 0, none⟩)) :: (.int .i64 (k : Int)) :: (.pointer (some ⟨bt, k, none⟩)) :: (.int .i64 (ak : Int)) :: (.pointer (some ⟨n1, 0, none⟩)) :: (.pointer (some ⟨bt, 2, none⟩)) :: (.int .i64 (z : Int)) :: (.pointer (some ⟨n2, 0, none⟩)) :: (.pointer (some ⟨b1, 0, none⟩)) :: (.pointer (some ⟨b0, 0, none⟩)) :: (u125) :: (u126) :: (u127) :: (u128) :: (u129) :: (u130) :: (u131) :: (u132) :: (u133) :: (u134) :: (u135) :: (u136) :: (u137) :: (u138) :: (u139) :: (u140) :: (u141) :: (u142) :: (u143) :: (u144) :: (u145) :: (u146) :: (u147) :: (u148) :: (u149) :: (u150) :: (u151) :: (u152) :: (u153) :: (u154) :: (u155) :: (u156) :: (u157) :: (u158) :: (u159) :: (u160) :: (u161) :: (u162) :: (u163) :: (u164) :: (u165) :: (u166) :: (u167) :: (u168) :: (u169) :: []).toArray, defers := [] } ∧ Hid (Below wr.heap.size wr w1 ∧ wr.heap.size ≤ b0 ∧ BigAt w1 b0 (3 * ((ak : Int) * (z : Int))) ∧ wr.heap.size ≤ n0 ∧ BigAt w1 n0 3 ∧ wr.heap.size ≤ b1 ∧ BigAt w1 b1 ((ak : Int) * (z : Int)) ∧ wr.heap.size ≤ n1 ∧ BigAt w1 n1 (ak : Int) ∧ wr.heap.size ≤ n2 ∧ BigAt w1 n2 (z : Int) ∧ b0 ≠ n0 ∧ b0 ≠ b1 ∧ b0 ≠ n1 ∧ b0 ≠ n2 ∧ n0 ≠ b1 ∧ n0 ≠ n1 ∧ n0 ≠ n2 ∧ b1 ≠ n1 ∧ b1 ≠ n2 ∧ n1 ≠ n2)) ∨ (∃ b0 n0 b1 n1 n2 : Nat, n = 0 ∧ l = #[true, true, true, true, true, true, true, true, true, true, true, true, true] ∧ a = { tmps := ((Value.int IntKind.i64 ↑m) :: (undef) :: (u2) :: (Value.slice (some { block := g, off := 0 }) N cc) :: (Value.pointer (some { block := bf, off := 0 })) :: (Value.int IntKind.i64 ↑i) :: (Value.pointer (some { block := bt, off := 0 })) :: (Value.int IntKind.i64 ↑k) :: (.pointer (some ⟨b0, 0, none⟩)) :: (u9) :: (u10) :: (Value.tuple #[Value.slice (some { block := g, off := 0 }) N cc, Value.agg #[Value.int IntKind.i64 0, Value.int IntKind.i64 0]]) :: (Value.int IntKind.i64 ↑m) :: (Value.tuple #[Value.slice (some { block := g, off := 0 }) N cc, Value.agg #[Value.int IntKind.i64 0, Value.int IntKind.i64 0]]) :: (Value.slice (some { block := g, off := 0 }) N cc) :: (Value.agg #[Value.int IntKind.i64 0, Value.int IntKind.i64 0]) :: (Value.bool true) :: (Value.bool false) :: (Value.int IntKind.i64 ↑m) :: (Value.bool false) :: (Value.bool false) :: (Value.int IntKind.i64 ↑m) :: (Value.bool true) :: (Value.bool false) :: (Value.bool false) :: (undef) :: (undef) :: (undef) :: (undef) :: (undef) :: (undef) :: (undef) :: (undef) :: (Value.pointer (some { block := bf, off := 0 })) :: (Value.int IntKind.i64 0) :: (Value.bool false) :: (Value.bool false) :: (Value.slice (some { block := g, off := 0 }) N cc) :: (Value.int IntKind.i64 ↑N) :: (Value.bool false) :: (Value.bool false) :: (Value.int IntKind.i64 ↑m) :: (Value.bool false) :: (undef) :: (undef) :: (undef) :: (undef) :: (Value.slice (some { block := g, off := 0 }) N cc) :: (Value.int IntKind.i64 ↑N) :: (Value.bool false) :: (Value.bool false) :: (Value.slice (some { block := g, off := 0 }) N cc) :: (Value.pointer (some { block := g, off := 0 })) :: (Value.agg #[Value.int IntKind.i64 1, Value.int IntKind.i64 1, Value.int IntKind.i64 1]) :: (Value.agg #[Value.int IntKind.i64 1, Value.int IntKind.i64 1, Value.int IntKind.i64 1]) :: (Value.bool false) :: (Value.bool false) :: (Value.int IntKind.i64 ↑i) :: (Value.slice (some { block := g, off := 0 }) N cc) :: (Value.int IntKind.i64 ↑N) :: (Value.bool true) :: (u61) :: (u62) :: (Value.slice (some { block := g, off := 0 }) N cc) :: (Value.int IntKind.i64 ↑i) :: (Value.pointer (some { block := g, off := i * 3 })) :: (Value.agg #[Value.int IntKind.i64 ↑t.fst, Value.int IntKind.i64 ↑t.snd.fst, Value.int IntKind.i64 ↑t.snd.snd]) :: (u67) :: (u68) :: (u69) :: (u70) :: (u71) :: (u72) :: (u73) :: (u74) :: (u75) :: (u76) :: (u77) :: (u78) :: (u79) :: (u80) :: (u81) :: (u82) :: (u83) :: (u84) :: (u85) :: (u86) :: (u87) :: (u88) :: (u89) :: (u90) :: (u91) :: (u92) :: (u93) :: (u94) :: (u95) :: (u96) :: (u97) :: (u98) :: (u99) :: (u100) :: (u101) :: (u102) :: (u103) :: (u104) :: (u105) :: (u106) :: (u107) :: (Value.bool false) :: (Value.int IntKind.i64 ↑k) :: (Value.bool true) :: (u111) :: (u112) :: (.pointer (some ⟨b0, 0, none⟩)) :: (.pointer (some ⟨n0, 0, none⟩)) :: (.pointer (some ⟨b1, 0, none⟩)) :: (.int .i64 (k : Int)) :: (.pointer (some ⟨bt, k, none⟩)) :: (.int .i64 (ak : Int)) :: (.pointer (some ⟨n1, 0, none⟩)) :: (.pointer (some ⟨bt, 2, none⟩)) :: (.int .i64 (z : Int)) :: (.pointer (some ⟨n2, 0, none⟩)) :: (.pointer (some ⟨b1, 0, none⟩)) :: (.pointer (some ⟨b0, 0, none⟩)) :: (u125) :: (u126) :: (u127) :: (u128) :: (u129) :: (u130) :: (u131) :: (u132) :: (u133) :: (u134) :: (u135) :: (u136) :: (u137) :: (u138) :: (u139) :: (u140) :: (u141) :: (u142) :: (u143) :: (u144) :: (u145) :: (u146) :: (u147) :: (u148) :: (u149) :: (u150) :: (u151) :: (u152) :: (u153) :: (u154) :: (u155) :: (u156) :: (u157) :: (u158) :: (u159) :: (u160) :: (u161) :: (u162) :: (u163) :: (u164) :: (u165) :: (u166) :: (u167) :: (u168) :: (u169) :: []).toArray, defers := [] } ∧ Hid (Below wr.heap.size wr w1 ∧ wr.heap.size ≤ b0 ∧ BigAt w1 b0 (3 * ((ak : Int) * (z : Int))) ∧ wr.heap.size ≤ n0 ∧ BigAt w1 n0 3 ∧ wr.heap.size ≤ b1 ∧ BigAt w1 b1 ((ak : Int) * (z : Int)) ∧ wr.heap.size ≤ n1 ∧ BigAt w1 n1 (ak : Int) ∧ wr.heap.size ≤ n2 ∧ BigAt w1 n2 (z : Int) ∧ b0 ≠ n0 ∧ b0 ≠ b1 ∧ b0 ≠ n1 ∧ b0 ≠ n2 ∧ n0 ≠ b1 ∧ n0 ≠ n1 ∧ n0 ≠ n2 ∧ b1 ≠ n1 ∧ b1 ≠ n2 ∧ n1 ≠ n2))) ?steps _ _ _ _ ?start
            case start => exact Or.inl (⟨rfl, rfl, rfl, (Below.refl wr.heap.size wr).drew⟩)
            case steps =>
              intro n l a w1 hI
              rcases hI with hI | hI | hI | hI | hI | hI | hI | hI | hI | hI | hI | hI | hI | hI | hI | hI | hI | hI | hI | hI
              · obtain ⟨rfl, rfl, rfl, HH⟩ := hI
                right
                refine ⟨7, [0, 1, 2], rfl, by kernel_rfl, by simp, fun i hi => ?_⟩
                simp only [List.mem_cons, List.not_mem_nil, or_false] at hi
                rcases hi with rfl | rfl | rfl
                · refine ⟨_, rfl, fun K' hK => ?_⟩
                  go_simp
                  have K := HH.out
                  refine hK.out _ _ (fun _ _ => (HS.out _ (K.alloc K.size _))) (Or.inr (Or.inl (⟨w1.heap.size, rfl, rfl, rfl, K.alloc K.size _, K.size, slot_new w1 _ _⟩)))
                · refine ⟨_, rfl, fun K' hK => ?_⟩
                  go_simp
                  have K := HH.out
                  refine (B_any 3 w1 (by omega) (by omega)).mono ?_
                  rintro e w2 ⟨n0, rfl, m2⟩
                  refine hK.out _ _ (fun _ _ => (HS.out _ (K.trans (m2.2.2.mono K.size)))) (Or.inr (Or.inr (Or.inl (⟨n0, rfl, rfl, rfl, (K.trans (m2.2.2.mono K.size)), (Nat.le_trans K.size m2.1), m2.2.1⟩))))
                · refine ⟨_, rfl, fun K' hK => ?_⟩
                  go_simp
                  have K := HH.out
                  refine hK.out _ _ (fun _ _ => (HS.out _ (K.alloc K.size _))) (Or.inr (Or.inr (Or.inr (Or.inl (⟨w1.heap.size, rfl, rfl, rfl, K.alloc K.size _, K.size, slot_new w1 _ _⟩)))))
              · obtain ⟨b0, rfl, rfl, rfl, HH⟩ := hI
                right
                refine ⟨6, [1, 2], rfl, by kernel_rfl, by simp, fun i hi => ?_⟩
                simp only [List.mem_cons, List.not_mem_nil, or_false] at hi
                rcases hi with rfl | rfl
                · refine ⟨_, rfl, fun K' hK => ?_⟩
                  go_simp
                  obtain ⟨K, ge_b0, at_b0⟩ := HH.out
                  refine (B_any 3 w1 (by omega) (by omega)).mono ?_
                  rintro e w2 ⟨n0, rfl, m2⟩
                  refine hK.out _ _ (fun _ _ => (HS.out _ (K.trans (m2.2.2.mono K.size)))) (Or.inr (Or.inr (Or.inr (Or.inr (Or.inl (⟨b0, n0, rfl, rfl, rfl, (K.trans (m2.2.2.mono K.size)), ge_b0, at_b0.below m2.2.2 (Nat.le_refl _), (Nat.le_trans K.size m2.1), m2.2.1, (Nat.ne_of_lt (Nat.lt_of_lt_of_le at_b0.lt m2.1))⟩))))))
                · refine ⟨_, rfl, fun K' hK => ?_⟩
                  go_simp
                  obtain ⟨K, ge_b0, at_b0⟩ := HH.out
                  refine hK.out _ _ (fun _ _ => (HS.out _ (K.alloc K.size _))) (Or.inr (Or.inr (Or.inr (Or.inr (Or.inr (Or.inl (⟨b0, w1.heap.size, rfl, rfl, rfl, K.alloc K.size _, ge_b0, at_b0.below (Below.alloc_self' w1 _) (Nat.le_refl _), K.size, slot_new w1 _ _, (Nat.ne_of_lt at_b0.lt)⟩)))))))
              · obtain ⟨n0, rfl, rfl, rfl, HH⟩ := hI
                right
                refine ⟨6, [0, 2, 6], rfl, by kernel_rfl, by simp, fun i hi => ?_⟩
                simp only [List.mem_cons, List.not_mem_nil, or_false] at hi
                rcases hi with rfl | rfl | rfl
                · refine ⟨_, rfl, fun K' hK => ?_⟩
                  go_simp
                  obtain ⟨K, ge_n0, at_n0⟩ := HH.out
                  refine hK.out _ _ (fun _ _ => (HS.out _ (K.alloc K.size _))) (Or.inr (Or.inr (Or.inr (Or.inr (Or.inl (⟨w1.heap.size, n0, rfl, rfl, rfl, K.alloc K.size _, K.size, slot_new w1 _ _, ge_n0, at_n0.below (Below.alloc_self' w1 _) (Nat.le_refl _), (Nat.ne_of_gt at_n0.lt)⟩))))))
                · refine ⟨_, rfl, fun K' hK => ?_⟩
                  go_simp
                  obtain ⟨K, ge_n0, at_n0⟩ := HH.out
                  refine hK.out _ _ (fun _ _ => (HS.out _ (K.alloc K.size _))) (Or.inr (Or.inr (Or.inr (Or.inr (Or.inr (Or.inr (Or.inl (⟨n0, w1.heap.size, rfl, rfl, rfl, K.alloc K.size _, ge_n0, at_n0.below (Below.alloc_self' w1 _) (Nat.le_refl _), K.size, slot_new w1 _ _, (Nat.ne_of_lt at_n0.lt)⟩))))))))
                · refine ⟨_, rfl, fun K' hK => ?_⟩
                  go_simp
                  obtain ⟨K, ge_n0, at_n0⟩ := HH.out
                  refine (B_any (ak : Int) w1 (by omega) (by omega)).mono ?_
                  rintro e w2 ⟨n1, rfl, m2⟩
                  refine hK.out _ _ (fun _ _ => (HS.out _ (K.trans (m2.2.2.mono K.size)))) (Or.inr (Or.inr (Or.inr (Or.inr (Or.inr (Or.inr (Or.inr (Or.inl (⟨n0, n1, rfl, rfl, rfl, (K.trans (m2.2.2.mono K.size)), ge_n0, at_n0.below m2.2.2 (Nat.le_refl _), (Nat.le_trans K.size m2.1), m2.2.1, (Nat.ne_of_lt (Nat.lt_of_lt_of_le at_n0.lt m2.1))⟩)))))))))
              · obtain ⟨b1, rfl, rfl, rfl, HH⟩ := hI
                right
                refine ⟨6, [0, 1], rfl, by kernel_rfl, by simp, fun i hi => ?_⟩
                simp only [List.mem_cons, List.not_mem_nil, or_false] at hi
                rcases hi with rfl | rfl
                · refine ⟨_, rfl, fun K' hK => ?_⟩
                  go_simp
                  obtain ⟨K, ge_b1, at_b1⟩ := HH.out
                  refine hK.out _ _ (fun _ _ => (HS.out _ (K.alloc K.size _))) (Or.inr (Or.inr (Or.inr (Or.inr (Or.inr (Or.inl (⟨w1.heap.size, b1, rfl, rfl, rfl, K.alloc K.size _, K.size, slot_new w1 _ _, ge_b1, at_b1.below (Below.alloc_self' w1 _) (Nat.le_refl _), (Nat.ne_of_gt at_b1.lt)⟩)))))))
                · refine ⟨_, rfl, fun K' hK => ?_⟩
                  go_simp
                  obtain ⟨K, ge_b1, at_b1⟩ := HH.out
                  refine (B_any 3 w1 (by omega) (by omega)).mono ?_
                  rintro e w2 ⟨n0, rfl, m2⟩
                  refine hK.out _ _ (fun _ _ => (HS.out _ (K.trans (m2.2.2.mono K.size)))) (Or.inr (Or.inr (Or.inr (Or.inr (Or.inr (Or.inr (Or.inl (⟨n0, b1, rfl, rfl, rfl, (K.trans (m2.2.2.mono K.size)), (Nat.le_trans K.size m2.1), m2.2.1, ge_b1, at_b1.below m2.2.2 (Nat.le_refl _), (Nat.ne_of_gt (Nat.lt_of_lt_of_le at_b1.lt m2.1))⟩))))))))
              · obtain ⟨b0, n0, rfl, rfl, rfl, HH⟩ := hI
                right
                refine ⟨5, [2, 6], rfl, by kernel_rfl, by simp, fun i hi => ?_⟩
                simp only [List.mem_cons, List.not_mem_nil, or_false] at hi
                rcases hi with rfl | rfl
                · refine ⟨_, rfl, fun K' hK => ?_⟩
                  go_simp
                  obtain ⟨K, ge_b0, at_b0, ge_n0, at_n0, ne_b0_n0⟩ := HH.out
                  refine hK.out _ _ (fun _ _ => (HS.out _ (K.alloc K.size _))) (Or.inr (Or.inr (Or.inr (Or.inr (Or.inr (Or.inr (Or.inr (Or.inr (Or.inl (⟨b0, n0, w1.heap.size, rfl, rfl, rfl, K.alloc K.size _, ge_b0, at_b0.below (Below.alloc_self' w1 _) (Nat.le_refl _), ge_n0, at_n0.below (Below.alloc_self' w1 _) (Nat.le_refl _), K.size, slot_new w1 _ _, ne_b0_n0, (Nat.ne_of_lt at_b0.lt), (Nat.ne_of_lt at_n0.lt)⟩))))))))))
                · refine ⟨_, rfl, fun K' hK => ?_⟩
                  go_simp
                  obtain ⟨K, ge_b0, at_b0, ge_n0, at_n0, ne_b0_n0⟩ := HH.out
                  refine (B_any (ak : Int) w1 (by omega) (by omega)).mono ?_
                  rintro e w2 ⟨n1, rfl, m2⟩
                  refine hK.out _ _ (fun _ _ => (HS.out _ (K.trans (m2.2.2.mono K.size)))) (Or.inr (Or.inr (Or.inr (Or.inr (Or.inr (Or.inr (Or.inr (Or.inr (Or.inr (Or.inl (⟨b0, n0, n1, rfl, rfl, rfl, (K.trans (m2.2.2.mono K.size)), ge_b0, at_b0.below m2.2.2 (Nat.le_refl _), ge_n0, at_n0.below m2.2.2 (Nat.le_refl _), (Nat.le_trans K.size m2.1), m2.2.1, ne_b0_n0, (Nat.ne_of_lt (Nat.lt_of_lt_of_le at_b0.lt m2.1)), (Nat.ne_of_lt (Nat.lt_of_lt_of_le at_n0.lt m2.1))⟩)))))))))))
              · obtain ⟨b0, b1, rfl, rfl, rfl, HH⟩ := hI
                right
                refine ⟨5, [1], rfl, by kernel_rfl, by simp, fun i hi => ?_⟩
                simp only [List.mem_cons, List.not_mem_nil, or_false] at hi
                subst hi
                refine ⟨_, rfl, fun K' hK => ?_⟩
                go_simp
                obtain ⟨K, ge_b0, at_b0, ge_b1, at_b1, ne_b0_b1⟩ := HH.out
                refine (B_any 3 w1 (by omega) (by omega)).mono ?_
                rintro e w2 ⟨n0, rfl, m2⟩
                refine hK.out _ _ (fun _ _ => (HS.out _ (K.trans (m2.2.2.mono K.size)))) (Or.inr (Or.inr (Or.inr (Or.inr (Or.inr (Or.inr (Or.inr (Or.inr (Or.inl (⟨b0, n0, b1, rfl, rfl, rfl, (K.trans (m2.2.2.mono K.size)), ge_b0, at_b0.below m2.2.2 (Nat.le_refl _), (Nat.le_trans K.size m2.1), m2.2.1, ge_b1, at_b1.below m2.2.2 (Nat.le_refl _), (Nat.ne_of_lt (Nat.lt_of_lt_of_le at_b0.lt m2.1)), ne_b0_b1, (Nat.ne_of_gt (Nat.lt_of_lt_of_le at_b1.lt m2.1))⟩))))))))))
              · obtain ⟨n0, b1, rfl, rfl, rfl, HH⟩ := hI
                right
                refine ⟨5, [0, 6], rfl, by kernel_rfl, by simp, fun i hi => ?_⟩
                simp only [List.mem_cons, List.not_mem_nil, or_false] at hi
                rcases hi with rfl | rfl
                · refine ⟨_, rfl, fun K' hK => ?_⟩
                  go_simp
                  obtain ⟨K, ge_n0, at_n0, ge_b1, at_b1, ne_n0_b1⟩ := HH.out
                  refine hK.out _ _ (fun _ _ => (HS.out _ (K.alloc K.size _))) (Or.inr (Or.inr (Or.inr (Or.inr (Or.inr (Or.inr (Or.inr (Or.inr (Or.inl (⟨w1.heap.size, n0, b1, rfl, rfl, rfl, K.alloc K.size _, K.size, slot_new w1 _ _, ge_n0, at_n0.below (Below.alloc_self' w1 _) (Nat.le_refl _), ge_b1, at_b1.below (Below.alloc_self' w1 _) (Nat.le_refl _), (Nat.ne_of_gt at_n0.lt), (Nat.ne_of_gt at_b1.lt), ne_n0_b1⟩))))))))))
                · refine ⟨_, rfl, fun K' hK => ?_⟩
                  go_simp
                  obtain ⟨K, ge_n0, at_n0, ge_b1, at_b1, ne_n0_b1⟩ := HH.out
                  refine (B_any (ak : Int) w1 (by omega) (by omega)).mono ?_
                  rintro e w2 ⟨n1, rfl, m2⟩
                  refine hK.out _ _ (fun _ _ => (HS.out _ (K.trans (m2.2.2.mono K.size)))) (Or.inr (Or.inr (Or.inr (Or.inr (Or.inr (Or.inr (Or.inr (Or.inr (Or.inr (Or.inr (Or.inl (⟨n0, b1, n1, rfl, rfl, rfl, (K.trans (m2.2.2.mono K.size)), ge_n0, at_n0.below m2.2.2 (Nat.le_refl _), ge_b1, at_b1.below m2.2.2 (Nat.le_refl _), (Nat.le_trans K.size m2.1), m2.2.1, ne_n0_b1, (Nat.ne_of_lt (Nat.lt_of_lt_of_le at_n0.lt m2.1)), (Nat.ne_of_lt (Nat.lt_of_lt_of_le at_b1.lt m2.1))⟩))))))))))))
              · obtain ⟨n0, n1, rfl, rfl, rfl, HH⟩ := hI
                right
                refine ⟨5, [0, 2, 9], rfl, by kernel_rfl, by simp, fun i hi => ?_⟩
                simp only [List.mem_cons, List.not_mem_nil, or_false] at hi
                rcases hi with rfl | rfl | rfl
                · refine ⟨_, rfl, fun K' hK => ?_⟩
                  go_simp
                  obtain ⟨K, ge_n0, at_n0, ge_n1, at_n1, ne_n0_n1⟩ := HH.out
                  refine hK.out _ _ (fun _ _ => (HS.out _ (K.alloc K.size _))) (Or.inr (Or.inr (Or.inr (Or.inr (Or.inr (Or.inr (Or.inr (Or.inr (Or.inr (Or.inl (⟨w1.heap.size, n0, n1, rfl, rfl, rfl, K.alloc K.size _, K.size, slot_new w1 _ _, ge_n0, at_n0.below (Below.alloc_self' w1 _) (Nat.le_refl _), ge_n1, at_n1.below (Below.alloc_self' w1 _) (Nat.le_refl _), (Nat.ne_of_gt at_n0.lt), (Nat.ne_of_gt at_n1.lt), ne_n0_n1⟩)))))))))))
                · refine ⟨_, rfl, fun K' hK => ?_⟩
                  go_simp
                  obtain ⟨K, ge_n0, at_n0, ge_n1, at_n1, ne_n0_n1⟩ := HH.out
                  refine hK.out _ _ (fun _ _ => (HS.out _ (K.alloc K.size _))) (Or.inr (Or.inr (Or.inr (Or.inr (Or.inr (Or.inr (Or.inr (Or.inr (Or.inr (Or.inr (Or.inl (⟨n0, w1.heap.size, n1, rfl, rfl, rfl, K.alloc K.size _, ge_n0, at_n0.below (Below.alloc_self' w1 _) (Nat.le_refl _), K.size, slot_new w1 _ _, ge_n1, at_n1.below (Below.alloc_self' w1 _) (Nat.le_refl _), (Nat.ne_of_lt at_n0.lt), ne_n0_n1, (Nat.ne_of_gt at_n1.lt)⟩))))))))))))
                · refine ⟨_, rfl, fun K' hK => ?_⟩
                  go_simp
                  obtain ⟨K, ge_n0, at_n0, ge_n1, at_n1, ne_n0_n1⟩ := HH.out
                  refine (B_any (z : Int) w1 (by omega) (by omega)).mono ?_
                  rintro e w2 ⟨n2, rfl, m2⟩
                  refine hK.out _ _ (fun _ _ => (HS.out _ (K.trans (m2.2.2.mono K.size)))) (Or.inr (Or.inr (Or.inr (Or.inr (Or.inr (Or.inr (Or.inr (Or.inr (Or.inr (Or.inr (Or.inr (Or.inl (⟨n0, n1, n2, rfl, rfl, rfl, (K.trans (m2.2.2.mono K.size)), ge_n0, at_n0.below m2.2.2 (Nat.le_refl _), ge_n1, at_n1.below m2.2.2 (Nat.le_refl _), (Nat.le_trans K.size m2.1), m2.2.1, ne_n0_n1, (Nat.ne_of_lt (Nat.lt_of_lt_of_le at_n0.lt m2.1)), (Nat.ne_of_lt (Nat.lt_of_lt_of_le at_n1.lt m2.1))⟩)))))))))))))
              · obtain ⟨b0, n0, b1, rfl, rfl, rfl, HH⟩ := hI
                right
                refine ⟨4, [6], rfl, by kernel_rfl, by simp, fun i hi => ?_⟩
                simp only [List.mem_cons, List.not_mem_nil, or_false] at hi
                subst hi
                refine ⟨_, rfl, fun K' hK => ?_⟩
                go_simp
                obtain ⟨K, ge_b0, at_b0, ge_n0, at_n0, ge_b1, at_b1, ne_b0_n0, ne_b0_b1, ne_n0_b1⟩ := HH.out
                refine (B_any (ak : Int) w1 (by omega) (by omega)).mono ?_
                rintro e w2 ⟨n1, rfl, m2⟩
                refine hK.out _ _ (fun _ _ => (HS.out _ (K.trans (m2.2.2.mono K.size)))) (Or.inr (Or.inr (Or.inr (Or.inr (Or.inr (Or.inr (Or.inr (Or.inr (Or.inr (Or.inr (Or.inr (Or.inr (Or.inl (⟨b0, n0, b1, n1, rfl, rfl, rfl, (K.trans (m2.2.2.mono K.size)), ge_b0, at_b0.below m2.2.2 (Nat.le_refl _), ge_n0, at_n0.below m2.2.2 (Nat.le_refl _), ge_b1, at_b1.below m2.2.2 (Nat.le_refl _), (Nat.le_trans K.size m2.1), m2.2.1, ne_b0_n0, ne_b0_b1, (Nat.ne_of_lt (Nat.lt_of_lt_of_le at_b0.lt m2.1)), ne_n0_b1, (Nat.ne_of_lt (Nat.lt_of_lt_of_le at_n0.lt m2.1)), (Nat.ne_of_lt (Nat.lt_of_lt_of_le at_b1.lt m2.1))⟩))))))))))))))
              · obtain ⟨b0, n0, n1, rfl, rfl, rfl, HH⟩ := hI
                right
                refine ⟨4, [2, 9], rfl, by kernel_rfl, by simp, fun i hi => ?_⟩
                simp only [List.mem_cons, List.not_mem_nil, or_false] at hi
                rcases hi with rfl | rfl
                · refine ⟨_, rfl, fun K' hK => ?_⟩
                  go_simp
                  obtain ⟨K, ge_b0, at_b0, ge_n0, at_n0, ge_n1, at_n1, ne_b0_n0, ne_b0_n1, ne_n0_n1⟩ := HH.out
                  refine hK.out _ _ (fun _ _ => (HS.out _ (K.alloc K.size _))) (Or.inr (Or.inr (Or.inr (Or.inr (Or.inr (Or.inr (Or.inr (Or.inr (Or.inr (Or.inr (Or.inr (Or.inr (Or.inl (⟨b0, n0, w1.heap.size, n1, rfl, rfl, rfl, K.alloc K.size _, ge_b0, at_b0.below (Below.alloc_self' w1 _) (Nat.le_refl _), ge_n0, at_n0.below (Below.alloc_self' w1 _) (Nat.le_refl _), K.size, slot_new w1 _ _, ge_n1, at_n1.below (Below.alloc_self' w1 _) (Nat.le_refl _), ne_b0_n0, (Nat.ne_of_lt at_b0.lt), ne_b0_n1, (Nat.ne_of_lt at_n0.lt), ne_n0_n1, (Nat.ne_of_gt at_n1.lt)⟩))))))))))))))
                · refine ⟨_, rfl, fun K' hK => ?_⟩
                  go_simp
                  obtain ⟨K, ge_b0, at_b0, ge_n0, at_n0, ge_n1, at_n1, ne_b0_n0, ne_b0_n1, ne_n0_n1⟩ := HH.out
                  refine (B_any (z : Int) w1 (by omega) (by omega)).mono ?_
                  rintro e w2 ⟨n2, rfl, m2⟩
                  refine hK.out _ _ (fun _ _ => (HS.out _ (K.trans (m2.2.2.mono K.size)))) (Or.inr (Or.inr (Or.inr (Or.inr (Or.inr (Or.inr (Or.inr (Or.inr (Or.inr (Or.inr (Or.inr (Or.inr (Or.inr (Or.inl (⟨b0, n0, n1, n2, rfl, rfl, rfl, (K.trans (m2.2.2.mono K.size)), ge_b0, at_b0.below m2.2.2 (Nat.le_refl _), ge_n0, at_n0.below m2.2.2 (Nat.le_refl _), ge_n1, at_n1.below m2.2.2 (Nat.le_refl _), (Nat.le_trans K.size m2.1), m2.2.1, ne_b0_n0, ne_b0_n1, (Nat.ne_of_lt (Nat.lt_of_lt_of_le at_b0.lt m2.1)), ne_n0_n1, (Nat.ne_of_lt (Nat.lt_of_lt_of_le at_n0.lt m2.1)), (Nat.ne_of_lt (Nat.lt_of_lt_of_le at_n1.lt m2.1))⟩)))))))))))))))
              · obtain ⟨n0, b1, n1, rfl, rfl, rfl, HH⟩ := hI
                right
                refine ⟨4, [0, 9], rfl, by kernel_rfl, by simp, fun i hi => ?_⟩
                simp only [List.mem_cons, List.not_mem_nil, or_false] at hi
                rcases hi with rfl | rfl
                · refine ⟨_, rfl, fun K' hK => ?_⟩
                  go_simp
                  obtain ⟨K, ge_n0, at_n0, ge_b1, at_b1, ge_n1, at_n1, ne_n0_b1, ne_n0_n1, ne_b1_n1⟩ := HH.out
                  refine hK.out _ _ (fun _ _ => (HS.out _ (K.alloc K.size _))) (Or.inr (Or.inr (Or.inr (Or.inr (Or.inr (Or.inr (Or.inr (Or.inr (Or.inr (Or.inr (Or.inr (Or.inr (Or.inl (⟨w1.heap.size, n0, b1, n1, rfl, rfl, rfl, K.alloc K.size _, K.size, slot_new w1 _ _, ge_n0, at_n0.below (Below.alloc_self' w1 _) (Nat.le_refl _), ge_b1, at_b1.below (Below.alloc_self' w1 _) (Nat.le_refl _), ge_n1, at_n1.below (Below.alloc_self' w1 _) (Nat.le_refl _), (Nat.ne_of_gt at_n0.lt), (Nat.ne_of_gt at_b1.lt), (Nat.ne_of_gt at_n1.lt), ne_n0_b1, ne_n0_n1, ne_b1_n1⟩))))))))))))))
                · refine ⟨_, rfl, fun K' hK => ?_⟩
                  go_simp
                  obtain ⟨K, ge_n0, at_n0, ge_b1, at_b1, ge_n1, at_n1, ne_n0_b1, ne_n0_n1, ne_b1_n1⟩ := HH.out
                  refine (B_any (z : Int) w1 (by omega) (by omega)).mono ?_
                  rintro e w2 ⟨n2, rfl, m2⟩
                  refine hK.out _ _ (fun _ _ => (HS.out _ (K.trans (m2.2.2.mono K.size)))) (Or.inr (Or.inr (Or.inr (Or.inr (Or.inr (Or.inr (Or.inr (Or.inr (Or.inr (Or.inr (Or.inr (Or.inr (Or.inr (Or.inr (Or.inl (⟨n0, b1, n1, n2, rfl, rfl, rfl, (K.trans (m2.2.2.mono K.size)), ge_n0, at_n0.below m2.2.2 (Nat.le_refl _), ge_b1, at_b1.below m2.2.2 (Nat.le_refl _), ge_n1, at_n1.below m2.2.2 (Nat.le_refl _), (Nat.le_trans K.size m2.1), m2.2.1, ne_n0_b1, ne_n0_n1, (Nat.ne_of_lt (Nat.lt_of_lt_of_le at_n0.lt m2.1)), ne_b1_n1, (Nat.ne_of_lt (Nat.lt_of_lt_of_le at_b1.lt m2.1)), (Nat.ne_of_lt (Nat.lt_of_lt_of_le at_n1.lt m2.1))⟩))))))))))))))))
              · obtain ⟨n0, n1, n2, rfl, rfl, rfl, HH⟩ := hI
                right
                refine ⟨4, [0, 2], rfl, by kernel_rfl, by simp, fun i hi => ?_⟩
                simp only [List.mem_cons, List.not_mem_nil, or_false] at hi
                rcases hi with rfl | rfl
                · refine ⟨_, rfl, fun K' hK => ?_⟩
                  go_simp
                  obtain ⟨K, ge_n0, at_n0, ge_n1, at_n1, ge_n2, at_n2, ne_n0_n1, ne_n0_n2, ne_n1_n2⟩ := HH.out
                  refine hK.out _ _ (fun _ _ => (HS.out _ (K.alloc K.size _))) (Or.inr (Or.inr (Or.inr (Or.inr (Or.inr (Or.inr (Or.inr (Or.inr (Or.inr (Or.inr (Or.inr (Or.inr (Or.inr (Or.inl (⟨w1.heap.size, n0, n1, n2, rfl, rfl, rfl, K.alloc K.size _, K.size, slot_new w1 _ _, ge_n0, at_n0.below (Below.alloc_self' w1 _) (Nat.le_refl _), ge_n1, at_n1.below (Below.alloc_self' w1 _) (Nat.le_refl _), ge_n2, at_n2.below (Below.alloc_self' w1 _) (Nat.le_refl _), (Nat.ne_of_gt at_n0.lt), (Nat.ne_of_gt at_n1.lt), (Nat.ne_of_gt at_n2.lt), ne_n0_n1, ne_n0_n2, ne_n1_n2⟩)))))))))))))))
                · refine ⟨_, rfl, fun K' hK => ?_⟩
                  go_simp
                  obtain ⟨K, ge_n0, at_n0, ge_n1, at_n1, ge_n2, at_n2, ne_n0_n1, ne_n0_n2, ne_n1_n2⟩ := HH.out
                  refine hK.out _ _ (fun _ _ => (HS.out _ (K.alloc K.size _))) (Or.inr (Or.inr (Or.inr (Or.inr (Or.inr (Or.inr (Or.inr (Or.inr (Or.inr (Or.inr (Or.inr (Or.inr (Or.inr (Or.inr (Or.inl (⟨n0, w1.heap.size, n1, n2, rfl, rfl, rfl, K.alloc K.size _, ge_n0, at_n0.below (Below.alloc_self' w1 _) (Nat.le_refl _), K.size, slot_new w1 _ _, ge_n1, at_n1.below (Below.alloc_self' w1 _) (Nat.le_refl _), ge_n2, at_n2.below (Below.alloc_self' w1 _) (Nat.le_refl _), (Nat.ne_of_lt at_n0.lt), ne_n0_n1, ne_n0_n2, (Nat.ne_of_gt at_n1.lt), (Nat.ne_of_gt at_n2.lt), ne_n1_n2⟩))))))))))))))))
              · obtain ⟨b0, n0, b1, n1, rfl, rfl, rfl, HH⟩ := hI
                right
                refine ⟨3, [9], rfl, by kernel_rfl, by simp, fun i hi => ?_⟩
                simp only [List.mem_cons, List.not_mem_nil, or_false] at hi
                subst hi
                refine ⟨_, rfl, fun K' hK => ?_⟩
                go_simp
                obtain ⟨K, ge_b0, at_b0, ge_n0, at_n0, ge_b1, at_b1, ge_n1, at_n1, ne_b0_n0, ne_b0_b1, ne_b0_n1, ne_n0_b1, ne_n0_n1, ne_b1_n1⟩ := HH.out
                refine (B_any (z : Int) w1 (by omega) (by omega)).mono ?_
                rintro e w2 ⟨n2, rfl, m2⟩
                refine hK.out _ _ (fun _ _ => (HS.out _ (K.trans (m2.2.2.mono K.size)))) (Or.inr (Or.inr (Or.inr (Or.inr (Or.inr (Or.inr (Or.inr (Or.inr (Or.inr (Or.inr (Or.inr (Or.inr (Or.inr (Or.inr (Or.inr (Or.inl (⟨b0, n0, b1, n1, n2, rfl, rfl, rfl, (K.trans (m2.2.2.mono K.size)), ge_b0, at_b0.below m2.2.2 (Nat.le_refl _), ge_n0, at_n0.below m2.2.2 (Nat.le_refl _), ge_b1, at_b1.below m2.2.2 (Nat.le_refl _), ge_n1, at_n1.below m2.2.2 (Nat.le_refl _), (Nat.le_trans K.size m2.1), m2.2.1, ne_b0_n0, ne_b0_b1, ne_b0_n1, (Nat.ne_of_lt (Nat.lt_of_lt_of_le at_b0.lt m2.1)), ne_n0_b1, ne_n0_n1, (Nat.ne_of_lt (Nat.lt_of_lt_of_le at_n0.lt m2.1)), ne_b1_n1, (Nat.ne_of_lt (Nat.lt_of_lt_of_le at_b1.lt m2.1)), (Nat.ne_of_lt (Nat.lt_of_lt_of_le at_n1.lt m2.1))⟩)))))))))))))))))
              · obtain ⟨b0, n0, n1, n2, rfl, rfl, rfl, HH⟩ := hI
                right
                refine ⟨3, [2], rfl, by kernel_rfl, by simp, fun i hi => ?_⟩
                simp only [List.mem_cons, List.not_mem_nil, or_false] at hi
                subst hi
                refine ⟨_, rfl, fun K' hK => ?_⟩
                go_simp
                obtain ⟨K, ge_b0, at_b0, ge_n0, at_n0, ge_n1, at_n1, ge_n2, at_n2, ne_b0_n0, ne_b0_n1, ne_b0_n2, ne_n0_n1, ne_n0_n2, ne_n1_n2⟩ := HH.out
                refine hK.out _ _ (fun _ _ => (HS.out _ (K.alloc K.size _))) (Or.inr (Or.inr (Or.inr (Or.inr (Or.inr (Or.inr (Or.inr (Or.inr (Or.inr (Or.inr (Or.inr (Or.inr (Or.inr (Or.inr (Or.inr (Or.inl (⟨b0, n0, w1.heap.size, n1, n2, rfl, rfl, rfl, K.alloc K.size _, ge_b0, at_b0.below (Below.alloc_self' w1 _) (Nat.le_refl _), ge_n0, at_n0.below (Below.alloc_self' w1 _) (Nat.le_refl _), K.size, slot_new w1 _ _, ge_n1, at_n1.below (Below.alloc_self' w1 _) (Nat.le_refl _), ge_n2, at_n2.below (Below.alloc_self' w1 _) (Nat.le_refl _), ne_b0_n0, (Nat.ne_of_lt at_b0.lt), ne_b0_n1, ne_b0_n2, (Nat.ne_of_lt at_n0.lt), ne_n0_n1, ne_n0_n2, (Nat.ne_of_gt at_n1.lt), (Nat.ne_of_gt at_n2.lt), ne_n1_n2⟩)))))))))))))))))
              · obtain ⟨n0, b1, n1, n2, rfl, rfl, rfl, HH⟩ := hI
                right
                refine ⟨3, [0, 10], rfl, by kernel_rfl, by simp, fun i hi => ?_⟩
                simp only [List.mem_cons, List.not_mem_nil, or_false] at hi
                rcases hi with rfl | rfl
                · refine ⟨_, rfl, fun K' hK => ?_⟩
                  go_simp
                  obtain ⟨K, ge_n0, at_n0, ge_b1, at_b1, ge_n1, at_n1, ge_n2, at_n2, ne_n0_b1, ne_n0_n1, ne_n0_n2, ne_b1_n1, ne_b1_n2, ne_n1_n2⟩ := HH.out
                  refine hK.out _ _ (fun _ _ => (HS.out _ (K.alloc K.size _))) (Or.inr (Or.inr (Or.inr (Or.inr (Or.inr (Or.inr (Or.inr (Or.inr (Or.inr (Or.inr (Or.inr (Or.inr (Or.inr (Or.inr (Or.inr (Or.inl (⟨w1.heap.size, n0, b1, n1, n2, rfl, rfl, rfl, K.alloc K.size _, K.size, slot_new w1 _ _, ge_n0, at_n0.below (Below.alloc_self' w1 _) (Nat.le_refl _), ge_b1, at_b1.below (Below.alloc_self' w1 _) (Nat.le_refl _), ge_n1, at_n1.below (Below.alloc_self' w1 _) (Nat.le_refl _), ge_n2, at_n2.below (Below.alloc_self' w1 _) (Nat.le_refl _), (Nat.ne_of_gt at_n0.lt), (Nat.ne_of_gt at_b1.lt), (Nat.ne_of_gt at_n1.lt), (Nat.ne_of_gt at_n2.lt), ne_n0_b1, ne_n0_n1, ne_n0_n2, ne_b1_n1, ne_b1_n2, ne_n1_n2⟩)))))))))))))))))
                · refine ⟨_, rfl, fun K' hK => ?_⟩
                  go_simp
                  obtain ⟨K, ge_n0, at_n0, ge_b1, at_b1, ge_n1, at_n1, ge_n2, at_n2, ne_n0_b1, ne_n0_n1, ne_n0_n2, ne_b1_n1, ne_b1_n2, ne_n1_n2⟩ := HH.out
                  refine (Mul_any b1 n1 n2 ak z 2 2 w1 at_b1 at_n1 at_n2 HP.out.1 HP.out.2.1 (by omega) (by omega)).mono ?_
                  rintro e w2 ⟨rfl, h2, u2⟩
                  refine hK.out _ _ (fun _ _ => (HS.out _ (K.trans (u2.below K.size ge_b1)))) (Or.inr (Or.inr (Or.inr (Or.inr (Or.inr (Or.inr (Or.inr (Or.inr (Or.inr (Or.inr (Or.inr (Or.inr (Or.inr (Or.inr (Or.inr (Or.inr (Or.inl (⟨n0, b1, n1, n2, rfl, rfl, rfl, (K.trans (u2.below K.size ge_b1)), ge_n0, at_n0.upd u2 at_b1 ne_n0_b1, ge_b1, h2, ge_n1, at_n1.upd u2 at_b1 (Ne.symm ne_b1_n1), ge_n2, at_n2.upd u2 at_b1 (Ne.symm ne_b1_n2), ne_n0_b1, ne_n0_n1, ne_n0_n2, ne_b1_n1, ne_b1_n2, ne_n1_n2⟩))))))))))))))))))
              · obtain ⟨b0, n0, b1, n1, n2, rfl, rfl, rfl, HH⟩ := hI
                right
                refine ⟨2, [10], rfl, by kernel_rfl, by simp, fun i hi => ?_⟩
                simp only [List.mem_cons, List.not_mem_nil, or_false] at hi
                subst hi
                refine ⟨_, rfl, fun K' hK => ?_⟩
                go_simp
                obtain ⟨K, ge_b0, at_b0, ge_n0, at_n0, ge_b1, at_b1, ge_n1, at_n1, ge_n2, at_n2, ne_b0_n0, ne_b0_b1, ne_b0_n1, ne_b0_n2, ne_n0_b1, ne_n0_n1, ne_n0_n2, ne_b1_n1, ne_b1_n2, ne_n1_n2⟩ := HH.out
                refine (Mul_any b1 n1 n2 ak z 2 2 w1 at_b1 at_n1 at_n2 HP.out.1 HP.out.2.1 (by omega) (by omega)).mono ?_
                rintro e w2 ⟨rfl, h2, u2⟩
                refine hK.out _ _ (fun _ _ => (HS.out _ (K.trans (u2.below K.size ge_b1)))) (Or.inr (Or.inr (Or.inr (Or.inr (Or.inr (Or.inr (Or.inr (Or.inr (Or.inr (Or.inr (Or.inr (Or.inr (Or.inr (Or.inr (Or.inr (Or.inr (Or.inr (Or.inl (⟨b0, n0, b1, n1, n2, rfl, rfl, rfl, (K.trans (u2.below K.size ge_b1)), ge_b0, at_b0.upd u2 ne_b0_b1, ge_n0, at_n0.upd u2 at_b1 ne_n0_b1, ge_b1, h2, ge_n1, at_n1.upd u2 at_b1 (Ne.symm ne_b1_n1), ge_n2, at_n2.upd u2 at_b1 (Ne.symm ne_b1_n2), ne_b0_n0, ne_b0_b1, ne_b0_n1, ne_b0_n2, ne_n0_b1, ne_n0_n1, ne_n0_n2, ne_b1_n1, ne_b1_n2, ne_n1_n2⟩)))))))))))))))))))
              · obtain ⟨n0, b1, n1, n2, rfl, rfl, rfl, HH⟩ := hI
                right
                refine ⟨2, [0], rfl, by kernel_rfl, by simp, fun i hi => ?_⟩
                simp only [List.mem_cons, List.not_mem_nil, or_false] at hi
                subst hi
                refine ⟨_, rfl, fun K' hK => ?_⟩
                go_simp
                obtain ⟨K, ge_n0, at_n0, ge_b1, at_b1, ge_n1, at_n1, ge_n2, at_n2, ne_n0_b1, ne_n0_n1, ne_n0_n2, ne_b1_n1, ne_b1_n2, ne_n1_n2⟩ := HH.out
                refine hK.out _ _ (fun _ _ => (HS.out _ (K.alloc K.size _))) (Or.inr (Or.inr (Or.inr (Or.inr (Or.inr (Or.inr (Or.inr (Or.inr (Or.inr (Or.inr (Or.inr (Or.inr (Or.inr (Or.inr (Or.inr (Or.inr (Or.inr (Or.inl (⟨w1.heap.size, n0, b1, n1, n2, rfl, rfl, rfl, K.alloc K.size _, K.size, slot_new w1 _ _, ge_n0, at_n0.below (Below.alloc_self' w1 _) (Nat.le_refl _), ge_b1, at_b1.below (Below.alloc_self' w1 _) (Nat.le_refl _), ge_n1, at_n1.below (Below.alloc_self' w1 _) (Nat.le_refl _), ge_n2, at_n2.below (Below.alloc_self' w1 _) (Nat.le_refl _), (Nat.ne_of_gt at_n0.lt), (Nat.ne_of_gt at_b1.lt), (Nat.ne_of_gt at_n1.lt), (Nat.ne_of_gt at_n2.lt), ne_n0_b1, ne_n0_n1, ne_n0_n2, ne_b1_n1, ne_b1_n2, ne_n1_n2⟩)))))))))))))))))))
              · obtain ⟨b0, n0, b1, n1, n2, rfl, rfl, rfl, HH⟩ := hI
                right
                refine ⟨1, [11], rfl, by kernel_rfl, by simp, fun i hi => ?_⟩
                simp only [List.mem_cons, List.not_mem_nil, or_false] at hi
                subst hi
                refine ⟨_, rfl, fun K' hK => ?_⟩
                go_simp
                obtain ⟨K, ge_b0, at_b0, ge_n0, at_n0, ge_b1, at_b1, ge_n1, at_n1, ge_n2, at_n2, ne_b0_n0, ne_b0_b1, ne_b0_n1, ne_b0_n2, ne_n0_b1, ne_n0_n1, ne_n0_n2, ne_b1_n1, ne_b1_n2, ne_n1_n2⟩ := HH.out
                refine (Mul_any b0 n0 b1 3 ((ak : Int) * (z : Int)) 1 4 w1 at_b0 at_n0 at_b1 HP.out.2.2.1 HP.out.2.2.2.1 (by omega) (by omega)).mono ?_
                rintro e w2 ⟨rfl, h2, u2⟩
                refine hK.out _ _ (fun _ _ => (HS.out _ (K.trans (u2.below K.size ge_b0)))) (Or.inr (Or.inr (Or.inr (Or.inr (Or.inr (Or.inr (Or.inr (Or.inr (Or.inr (Or.inr (Or.inr (Or.inr (Or.inr (Or.inr (Or.inr (Or.inr (Or.inr (Or.inr (Or.inl (⟨b0, n0, b1, n1, n2, rfl, rfl, rfl, (K.trans (u2.below K.size ge_b0)), ge_b0, h2, ge_n0, at_n0.upd u2 at_b0 (Ne.symm ne_b0_n0), ge_b1, at_b1.upd u2 at_b0 (Ne.symm ne_b0_b1), ge_n1, at_n1.upd u2 at_b0 (Ne.symm ne_b0_n1), ge_n2, at_n2.upd u2 at_b0 (Ne.symm ne_b0_n2), ne_b0_n0, ne_b0_b1, ne_b0_n1, ne_b0_n2, ne_n0_b1, ne_n0_n1, ne_n0_n2, ne_b1_n1, ne_b1_n2, ne_n1_n2⟩))))))))))))))))))))
              · obtain ⟨b0, n0, b1, n1, n2, rfl, rfl, rfl, HH⟩ := hI
                right
                refine ⟨0, [12], rfl, by kernel_rfl, by simp, fun i hi => ?_⟩
                simp only [List.mem_cons, List.not_mem_nil, or_false] at hi
                subst hi
                refine ⟨_, rfl, fun K' hK => ?_⟩
                go_simp
                obtain ⟨K, ge_b0, at_b0, ge_n0, at_n0, ge_b1, at_b1, ge_n1, at_n1, ge_n2, at_n2, ne_b0_n0, ne_b0_b1, ne_b0_n1, ne_b0_n2, ne_n0_b1, ne_n0_n1, ne_n0_n2, ne_b1_n1, ne_b1_n2, ne_n1_n2⟩ := HH.out
                refine hK.out _ _ (fun _ h => absurd rfl h) (Or.inr (Or.inr (Or.inr (Or.inr (Or.inr (Or.inr (Or.inr (Or.inr (Or.inr (Or.inr (Or.inr (Or.inr (Or.inr (Or.inr (Or.inr (Or.inr (Or.inr (Or.inr (Or.inr (⟨b0, n0, b1, n1, n2, rfl, rfl, rfl, K, ge_b0, at_b0, ge_n0, at_n0, ge_b1, at_b1, ge_n1, at_n1, ge_n2, at_n2, ne_b0_n0, ne_b0_b1, ne_b0_n1, ne_b0_n2, ne_n0_b1, ne_n0_n1, ne_n0_n2, ne_b1_n1, ne_b1_n2, ne_n1_n2⟩))))))))))))))))))))
              · obtain ⟨b0, n0, b1, n1, n2, rfl, rfl, rfl, HH⟩ := hI
                obtain ⟨K, ge_b0, at_b0, ge_n0, at_n0, ge_b1, at_b1, ge_n1, at_n1, ge_n2, at_n2, ne_b0_n0, ne_b0_b1, ne_b0_n1, ne_b0_n2, ne_n0_b1, ne_n0_n1, ne_n0_n2, ne_b1_n1, ne_b1_n2, ne_n1_n2⟩ := HH.out
                left
                refine ⟨by kernel_rfl, ?_⟩
                have HK1 : Hid (Mw w w1 g L ∧ Cl bt (tl3 t) 42 w1 ∧ BigAt w1 b0 (3 * ((ak : Int) * (z : Int))) ∧ wr.heap.size ≤ b0 ∧ Below wr.heap.size wr w1) := ⟨HB.out.1.below K, HB.out.2.below K, at_b0, ge_b0, K⟩
                obtain ⟨j, hj⟩ : ∃ j, 1 - k = j := ⟨_, rfl⟩
                have hkj : (1 : Int) - (k : Int) = (j : Int) := by omega
                have hwj : IntKind.i64.wrap (j : Int) = (j : Int) := by rw [IntKind.wrap_i64]; omega
                have hj3 : (j : Int) < 3 := by omega
                have d2 : w1.cell? ⟨bt, j, none⟩ = some (.int .i64 (b : Int)) := by rw [← hj]; exact (HK1.out.2.1.cell _).trans HC.out.2.1
                have HKt : Hid (k < 2) := hk
                clear HH K ge_b0 at_b0 HS hj hk
                go_wp2_with fail
                refine (B_any (b : Int) w1 (by omega) (by omega)).mono ?_
                rintro e w2 ⟨n3, rfl, m2⟩
                have HK2 : Hid (Mw w w2 g L ∧ Cl bt (tl3 t) 42 w2 ∧ BigAt w2 b0 (3 * ((ak : Int) * (z : Int))) ∧ wr.heap.size ≤ b0 ∧ Below wr.heap.size wr w2 ∧ BigAt w2 n3 (b : Int)) := by
                  obtain ⟨q1, q2, q3, q4, q5⟩ := HK1.out
                  exact ⟨q1.below m2.2.2, q2.below m2.2.2, q3.below m2.2.2 (Nat.le_refl _), q4, q5.trans (m2.2.2.mono q5.size), m2.2.1⟩
                clear m2 HK1 d2
                go_wp2_with fail
                have HPs : Hid ((3 * ((ak : Int) * (z : Int))).natAbs < pw 5) := by
                  have h := HP.out.2.2.2.1
                  have e : (3 * ((ak : Int) * (z : Int))).natAbs = 3 * ((ak : Int) * (z : Int)).natAbs := by rw [Int.natAbs_mul]; rfl
                  show _ < _
                  rw [e, show (5 : Nat) = 4 + 1 from rfl, pw_add, show pw 1 = 4294967296 from rfl]
                  omega
                refine (Sub_any b0 b0 n3 (3 * ((ak : Int) * (z : Int))) (b : Int) 5 2 w2 HK2.out.2.2.1.slot HK2.out.2.2.1 HK2.out.2.2.2.2.2 HPs.out HP.out.2.2.2.2.1 (by omega) (by omega)).mono ?_
                rintro e w3 ⟨rfl, h3, u3⟩
                obtain ⟨n, hn⟩ : ∃ n : Nat, n + b = 3 * (ak * z) := ⟨3 * (ak * z) - b, by have := HE.out; omega⟩
                have HN0 : Hid (n + b = 3 * (ak * z)) := hn
                have en : 3 * ((ak : Int) * (z : Int)) - (b : Int) = (n : Int) := by
                  have : ((3 * (ak * z) : Nat) : Int) = 3 * ((ak : Int) * (z : Int)) := by rw [Int.natCast_mul, Int.natCast_mul]; rfl
                  omega
                rw [en] at h3
                have hzn : z ≤ n := by have := HE.out; omega
                have HPn : Hid ((n : Int).natAbs < pw 5 ∧ (z : Int).natAbs < pw 2) := by
                  refine ⟨?_, HP.out.2.1⟩
                  have h := HPs.out
                  have : ((3 * (ak * z) : Nat) : Int) = 3 * ((ak : Int) * (z : Int)) := by rw [Int.natCast_mul, Int.natCast_mul]; rfl
                  omega
                have HK3 : Hid (Mw w w3 g L ∧ Cl bt (tl3 t) 42 w3 ∧ BigAt w3 b0 (n : Int)) := by
                  obtain ⟨q1, q2, q3, q4, q5, q6⟩ := HK2.out
                  have kb := q5.trans (u3.below q5.size q4)
                  exact ⟨HB.out.1.below kb, HB.out.2.below kb, h3⟩
                clear h3 u3 HK2 en hn HPs HB
                go_wp2_with fail
                refine (B_any (m : Int) w3 (by omega) (by have := HMb.out; omega)).mono ?_
                rintro e w4 ⟨n4, rfl, m4⟩
                have HK4 : Hid (Mw w w4 g L ∧ Cl bt (tl3 t) 42 w4 ∧ BigAt w4 b0 (n : Int) ∧ BigAt w4 n4 (m : Int)) := by
                  obtain ⟨q1, q2, q3⟩ := HK3.out
                  exact ⟨q1.below m4.2.2, q2.below m4.2.2, q3.below m4.2.2 (Nat.le_refl _), m4.2.1⟩
                clear m4 HK3
                go_wp2_with fail
                refine (Cmp_any b0 n4 (n : Int) (m : Int) 5 2 w4 HK4.out.2.2.1 HK4.out.2.2.2 HPn.out.1 HP.out.2.2.2.2.2 (by omega) (by omega)).mono ?_
                rintro e w5 ⟨rfl, q5, hw5⟩
                obtain ⟨c, hc⟩ : ∃ c, cmpZ (n : Int) (m : Int) = c := ⟨_, rfl⟩
                rw [hc]
                have HK5 : Hid (Mw w w5 g L ∧ Cl bt (tl3 t) 42 w5 ∧ BigAt w5 b0 (n : Int)) := by
                  obtain ⟨q1, q2, q3, _⟩ := HK4.out
                  have kb : Below w4.heap.size w4 w5 := by rw [hw5]; exact below_drewN' (Below.refl _ _)
                  exact ⟨q1.below kb, q2.below kb, q3.below kb (Nat.le_refl _)⟩
                clear hw5 HK4
                by_cases hnm : m < n
                · have tc : decide (0 < c) = true := by
                    rw [decide_eq_true_eq, ← hc]; unfold cmpZ; rw [if_neg (by omega), if_pos (by omega)]; decide
                  clear hc
                  go_wp2
                  go_roundg (2 - (k + 1))
                  case rel => exact ⟨k + 1, by go_num, rfl, (by have := HKt.out; omega), HK5.out.1, HK5.out.2.1⟩
                  case measure => have := HKk.out; have := HKt.out; omega
                · have tc : decide (0 < c) = false := by
                    rw [decide_eq_false_iff_not, ← hc]; unfold cmpZ
                    by_cases h : (n : Int) < (m : Int)
                    · rw [if_pos h]; decide
                    · rw [if_neg h, if_neg (by omega)]; decide
                  clear hc
                  have d3 : w5.cell? ⟨bt, 2, none⟩ = some (.int .i64 (z : Int)) := (HK5.out.2.1.cell 2).trans HC.out.2.2
                  go_wp2_with fail
                  refine (B_any (z : Int) w5 (by omega) (by omega)).mono ?_
                  rintro e w6 ⟨n6, rfl, m6⟩
                  have HK6 : Hid (Mw w w6 g L ∧ Cl bt (tl3 t) 42 w6 ∧ BigAt w6 b0 (n : Int) ∧ BigAt w6 n6 (z : Int)) := by
                    obtain ⟨q1, q2, q3⟩ := HK5.out
                    exact ⟨q1.below m6.2.2, q2.below m6.2.2, q3.below m6.2.2 (Nat.le_refl _), m6.2.1⟩
                  clear m6 HK5 d3
                  go_wp2_with fail
                  refine (Cmp_any b0 n6 (n : Int) (z : Int) 5 2 w6 HK6.out.2.2.1 HK6.out.2.2.2 HPn.out.1 HPn.out.2 (by omega) (by omega)).mono ?_
                  rintro e w7 ⟨rfl, q7, hw7⟩
                  obtain ⟨c', hc'⟩ : ∃ c, cmpZ (n : Int) (z : Int) = c := ⟨_, rfl⟩
                  rw [hc']
                  have tc' : decide (c' < 0) = false := by
                    rw [decide_eq_false_iff_not, ← hc']; unfold cmpZ
                    rw [if_neg (by omega)]
                    by_cases h : (z : Int) < (n : Int)
                    · rw [if_pos h]; decide
                    · rw [if_neg h]; decide
                  have HK7 : Hid (Mw w w7 g L ∧ Cl bt (tl3 t) 42 w7 ∧ BigAt w7 b0 (n : Int)) := by
                    obtain ⟨q1, q2, q3, _⟩ := HK6.out
                    have kb : Below w6.heap.size w6 w7 := by rw [hw7]; exact below_drewN' (Below.refl _ _)
                    exact ⟨q1.below kb, q2.below kb, q3.below kb (Nat.le_refl _)⟩
                  have HQ : Hid ((ak, z, n) ∈ L) := by
                    have h := HE.out
                    show _ ∈ _
                    rw [← h.1, ← h.2.2.1]
                    have hLL := HL.out
                    have htm := HTm.out.1
                    rw [hLL] at htm ⊢
                    exact MV.um_nbr HMb.out htm HKt.out (by rw [h.2.1, h.1, h.2.2.1]; exact HN0.out) (by omega)
                  clear hc' hw7 HK6
                  go_wp2
                  go_loopg [9, 10] N (fun gj inv jv wx => ∃ (B : Bool) (j : Nat), inv = .bool B ∧ jv = .int .i64 j ∧ Hid (gj = N - j ∧ j ≤ N ∧ (B = true ↔ (ak, z, n) ∈ L.take j) ∧ Mw w wx g L ∧ Cl bt (tl3 t) 42 wx ∧ BigAt wx b0 (n : Int)))
                  case atStart => exact ⟨false, 0, rfl, rfl, rfl, by omega, by simp, HK7.out⟩
                  case round =>
                    clear HK7
                    obtain ⟨B, j, rfl, rfl, HR⟩ := hrel
                    obtain ⟨h1, h2, h3, h4, h5, h6⟩ := HR.out
                    have HKj : Hid (gk = N - j) := h1
                    have HB8 : Hid (Mw w wr g L ∧ Cl bt (tl3 t) 42 wr ∧ BigAt wr b0 (n : Int)) := ⟨h4, h5, h6⟩
                    have HBB : Hid (B = true ↔ (ak, z, n) ∈ L.take j) := h3
                    clear HR h1 h3 h4 h5 h6
                    by_cases hj : j < N
                    · have tj : decide ((j : Int) < (N : Int)) = true := decide_eq_true (by omega)
                      have hjl : j < L.length := by have := HN.out; omega
                      obtain ⟨u, hu⟩ : ∃ u, L[j]'hjl = u := ⟨_, rfl⟩
                      have HT1 : Hid (L.take (j + 1) = L.take j ++ [u]) := by show _ = _; rw [← hu, List.take_append_getElem]
                      cases B
                      · obtain ⟨D, hD⟩ : ∃ D, D = decide (u = (ak, z, n)) := ⟨_, rfl⟩
                        have HD : Hid (D = decide (u = (ak, z, n))) := hD
                        have heq : ∀ w, (Op.equalIn 10000 42 (.agg #[.int .i64 (u.1 : Int), .int .i64 (u.2.1 : Int), .int .i64 (u.2.2 : Int)]) (.agg #[.int .i64 (ak : Int), .int .i64 (z : Int), .int .i64 (n : Int)])).run Try.prog w = .ok D w := fun w => by
                          rw [hD]
                          exact HEq.out u (ak, z, n) (by rw [← hu]; exact List.getElem_mem hjl) HQ.out w
                        have HS8 : Hid (∀ W', Below wr.heap.size wr W' → S5 bt g k j ak z u W') := fun W' kb => by
                          have b := (HB8.out.1.below kb).at hjl hu
                          exact ⟨((HB8.out.2.1.below kb).cell k).trans HC.out.1, ((HB8.out.2.1.below kb).cell 2).trans HC.out.2.2, b.1, b.2.1, b.2.2⟩
                        have hjN : (j : Int) < (N : Int) := by omega
                        have hj0 : (0 : Int) ≤ (j : Int) := by omega
                        clear hD hu
                        go_wp2_with fail
                        refine wp_region_G (S5 bt g k j ak z u) 16 (by kernel_rfl) (HS8.out _ (Below.refl _ _).drew) (fun hHeld => ?_)
                        refine wpAnyG_take (i := 0) (v := ?v0x77) rfl (by kernel_rfl) (fun _ _ _ h => h) (Or.inl ⟨by rfl, ?y0x77⟩) hHeld ?r0x77
                        case y0x77 => (intro wS hSw; obtain ⟨s1, s2, s3, s4, s5⟩ := hSw; go_simp; try with_reducible rfl)
                        simp only [Act.put, List.getElem_toArray, List.getElem_cons_zero, List.getElem_cons_succ, List.setIfInBounds_toArray, List.set_cons_zero, List.set_cons_succ]
                        refine wpAnyG_take (i := 1) (v := ?v1x78) rfl (by kernel_rfl) (fun _ _ _ h => h) (Or.inl ⟨by rfl, ?y1x78⟩) hHeld ?r1x78
                        case y1x78 => (intro wS hSw; obtain ⟨s1, s2, s3, s4, s5⟩ := hSw; go_simp; try with_reducible rfl)
                        simp only [Act.put, List.getElem_toArray, List.getElem_cons_zero, List.getElem_cons_succ, List.setIfInBounds_toArray, List.set_cons_zero, List.set_cons_succ]
                        refine wpAnyG_take (i := 2) (v := .slice (some ⟨g, 0, none⟩) N cc) rfl (by kernel_rfl) (fun _ _ _ h => h) (Or.inl ⟨by kernel_rfl, ?y2x79⟩) hHeld ?r2x79
                        case y2x79 => (intro wS hSw; go_simp)
                        simp only [Act.put, List.getElem_toArray, List.getElem_cons_zero, List.getElem_cons_succ, List.setIfInBounds_toArray, List.set_cons_zero, List.set_cons_succ]
                        refine wpAnyG_take (i := 3) (v := .int .i64 (j : Int)) rfl (by kernel_rfl) (fun _ _ _ h => h) (Or.inl ⟨by kernel_rfl, ?y3x80⟩) hHeld ?r3x80
                        case y3x80 => (intro wS hSw; go_simp)
                        simp only [Act.put, List.getElem_toArray, List.getElem_cons_zero, List.getElem_cons_succ, List.setIfInBounds_toArray, List.set_cons_zero, List.set_cons_succ]
                        refine wpAnyG_take (i := 4) (v := .pointer (some ⟨g, j * 3, none⟩)) rfl (by kernel_rfl) (fun _ _ _ h => h) (Or.inl ⟨by kernel_rfl, ?y4x81⟩) hHeld ?r4x81
                        case y4x81 => (intro wS hSw; (go_simp; try simp only [hjN, hj0, Int.toNat_natCast, if_true]))
                        simp only [Act.put, List.getElem_toArray, List.getElem_cons_zero, List.getElem_cons_succ, List.setIfInBounds_toArray, List.set_cons_zero, List.set_cons_succ]
                        refine wpAnyG_take (i := 5) (v := .agg #[.int .i64 (u.1 : Int), .int .i64 (u.2.1 : Int), .int .i64 (u.2.2 : Int)]) rfl (by kernel_rfl) (fun _ _ _ h => h) (Or.inl ⟨by kernel_rfl, ?y5x82⟩) hHeld ?r5x82
                        case y5x82 => (intro wS hSw; obtain ⟨s1, s2, s3, s4, s5⟩ := hSw; go_simp)
                        simp only [Act.put, List.getElem_toArray, List.getElem_cons_zero, List.getElem_cons_succ, List.setIfInBounds_toArray, List.set_cons_zero, List.set_cons_succ]
                        refine wpAnyG_take (i := 6) (v := .int .i64 (k : Int)) rfl (by kernel_rfl) (fun _ _ _ h => h) (Or.inl ⟨by kernel_rfl, ?y6x83⟩) hHeld ?r6x83
                        case y6x83 => (intro wS hSw; go_simp)
                        simp only [Act.put, List.getElem_toArray, List.getElem_cons_zero, List.getElem_cons_succ, List.setIfInBounds_toArray, List.set_cons_zero, List.set_cons_succ]
                        refine wpAnyG_take (i := 7) (v := .pointer (some ⟨bt, k, none⟩)) rfl (by kernel_rfl) (fun _ _ _ h => h) (Or.inl ⟨by kernel_rfl, ?y7x84⟩) hHeld ?r7x84
                        case y7x84 => (intro wS hSw; (go_simp; try simp only [hk3, if_true]))
                        simp only [Act.put, List.getElem_toArray, List.getElem_cons_zero, List.getElem_cons_succ, List.setIfInBounds_toArray, List.set_cons_zero, List.set_cons_succ]
                        refine wpAnyG_take (i := 8) (v := .int .i64 (ak : Int)) rfl (by kernel_rfl) (fun _ _ _ h => h) (Or.inl ⟨by kernel_rfl, ?y8x85⟩) hHeld ?r8x85
                        case y8x85 => (intro wS hSw; obtain ⟨s1, s2, s3, s4, s5⟩ := hSw; go_simp)
                        simp only [Act.put, List.getElem_toArray, List.getElem_cons_zero, List.getElem_cons_succ, List.setIfInBounds_toArray, List.set_cons_zero, List.set_cons_succ]
                        refine wpAnyG_take (i := 9) (v := .pointer (some ⟨bt, 2, none⟩)) rfl (by kernel_rfl) (fun _ _ _ h => h) (Or.inl ⟨by kernel_rfl, ?y9x86⟩) hHeld ?r9x86
                        case y9x86 => (intro wS hSw; go_simp)
                        simp only [Act.put, List.getElem_toArray, List.getElem_cons_zero, List.getElem_cons_succ, List.setIfInBounds_toArray, List.set_cons_zero, List.set_cons_succ]
                        refine wpAnyG_take (i := 10) (v := .int .i64 (z : Int)) rfl (by kernel_rfl) (fun _ _ _ h => h) (Or.inl ⟨by kernel_rfl, ?y10x87⟩) hHeld ?r10x87
                        case y10x87 => (intro wS hSw; obtain ⟨s1, s2, s3, s4, s5⟩ := hSw; go_simp)
                        simp only [Act.put, List.getElem_toArray, List.getElem_cons_zero, List.getElem_cons_succ, List.setIfInBounds_toArray, List.set_cons_zero, List.set_cons_succ]
                        refine wpAnyG_take (i := 11) (v := .pointer (some ⟨b0, 0, none⟩)) rfl (by kernel_rfl) (fun _ _ _ h => h) (Or.inl ⟨by kernel_rfl, ?y11x88⟩) hHeld ?r11x88
                        case y11x88 => (intro wS hSw; go_simp)
                        simp only [Act.put, List.getElem_toArray, List.getElem_cons_zero, List.getElem_cons_succ, List.setIfInBounds_toArray, List.set_cons_zero, List.set_cons_succ]
                        refine wpAnyG_one (i := 12) rfl (by kernel_rfl) (fun K hK => ?_)
                        rw [if_pos (by kernel_rfl)]
                        go_simp
                        refine (Int64_any b0 (n : Int) _ (HB8.out.2.2.below (Below.refl _ _).drew (Nat.le_refl _)) (by have := HMb.out; omega)).mono ?_
                        rintro e V1 ⟨rfl, q1, hV1⟩
                        have kV' : Below wr.heap.size wr V1 := by rw [hV1]; exact below_drewN' (Below.refl _ _).drew
                        have HB9 : Hid (Mw w V1 g L ∧ Cl bt (tl3 t) 42 V1 ∧ BigAt V1 b0 (n : Int)) := ⟨HB8.out.1.below kV', HB8.out.2.1.below kV', HB8.out.2.2.below kV' (Nat.le_refl _)⟩
                        clear hHeld
                        have hHeld : S5 bt g k j ak z u V1 := HS8.out _ kV'
                        clear hV1
                        refine hK.out _ _ hHeld ?_
                        clear hK K
                        refine wpAnyG_take (i := 13) (v := .agg #[.int .i64 (ak : Int), .int .i64 (z : Int), .int .i64 (n : Int)]) rfl (by kernel_rfl) (fun _ _ _ h => h) (Or.inl ⟨by kernel_rfl, ?y13x89⟩) hHeld ?r13x89
                        case y13x89 => (intro wS hSw; go_simp)
                        simp only [Act.put, List.getElem_toArray, List.getElem_cons_zero, List.getElem_cons_succ, List.setIfInBounds_toArray, List.set_cons_zero, List.set_cons_succ]
                        refine wpAnyG_take (i := 14) (v := .bool D) rfl (by kernel_rfl) (fun _ _ _ h => h) (Or.inl ⟨by kernel_rfl, ?y14x90⟩) hHeld ?r14x90
                        case y14x90 => (intro wS hSw; (go_simp; try simp only [heq]))
                        simp only [Act.put, List.getElem_toArray, List.getElem_cons_zero, List.getElem_cons_succ, List.setIfInBounds_toArray, List.set_cons_zero, List.set_cons_succ]
                        refine wpAnyG_take (i := 15) (v := .bool D) rfl (by kernel_rfl) (fun _ _ _ h => h) (Or.inl ⟨by kernel_rfl, ?y15x91⟩) hHeld ?r15x91
                        case y15x91 => (intro wS hSw; go_simp)
                        simp only [Act.put, List.getElem_toArray, List.getElem_cons_zero, List.getElem_cons_succ, List.setIfInBounds_toArray, List.set_cons_zero, List.set_cons_succ]
                        refine wpAnyG_last (i := 16) rfl (by kernel_rfl) (by kernel_rfl) (fun K hK => ?_)
                        go_simp
                        refine hK.out _ _ ?_
                        clear hK K
                        refine wpAnyG_done (by kernel_rfl) ?_ _
                        go_wp2
                        go_roundg (N - (j + 1))
                        case rel =>
                          refine ⟨D, j + 1, rfl, by go_num, rfl, by omega, ?_, HB9.out⟩
                          rw [HT1.out, List.mem_append, ← HBB.out, HD.out, decide_eq_true_eq]
                          simp [eq_comm]
                        case measure => have := HKj.out; omega
                      · go_wp2_with fail
                        refine wp_region_G (fun _ => True) 16 (by kernel_rfl) trivial (fun hHeld => ?_)
                        refine wpAnyG_take (i := 0) (v := ?v0x92) rfl (by kernel_rfl) (fun _ _ _ h => h) (Or.inl ⟨by rfl, ?y0x92⟩) hHeld ?r0x92
                        case y0x92 => (intro wS hSw; obtain ⟨s1, s2, s3, s4, s5⟩ := hSw; go_simp; try with_reducible rfl)
                        simp only [Act.put, List.getElem_toArray, List.getElem_cons_zero, List.getElem_cons_succ, List.setIfInBounds_toArray, List.set_cons_zero, List.set_cons_succ]
                        refine wpAnyG_take (i := 1) (v := ?v1x93) rfl (by kernel_rfl) (fun _ _ _ h => h) (Or.inl ⟨by rfl, ?y1x93⟩) hHeld ?r1x93
                        case y1x93 => (intro wS hSw; obtain ⟨s1, s2, s3, s4, s5⟩ := hSw; go_simp; try with_reducible rfl)
                        simp only [Act.put, List.getElem_toArray, List.getElem_cons_zero, List.getElem_cons_succ, List.setIfInBounds_toArray, List.set_cons_zero, List.set_cons_succ]
                        refine wpAnyG_take (i := 2) (v := undef) rfl (by kernel_rfl) (fun _ _ _ h => h) (Or.inr ⟨by kernel_rfl, rfl⟩) hHeld ?_
                        simp only [Act.put, List.getElem_toArray, List.getElem_cons_zero, List.getElem_cons_succ, List.setIfInBounds_toArray, List.set_cons_zero, List.set_cons_succ]
                        refine wpAnyG_take (i := 3) (v := undef) rfl (by kernel_rfl) (fun _ _ _ h => h) (Or.inr ⟨by kernel_rfl, rfl⟩) hHeld ?_
                        simp only [Act.put, List.getElem_toArray, List.getElem_cons_zero, List.getElem_cons_succ, List.setIfInBounds_toArray, List.set_cons_zero, List.set_cons_succ]
                        refine wpAnyG_take (i := 4) (v := undef) rfl (by kernel_rfl) (fun _ _ _ h => h) (Or.inr ⟨by kernel_rfl, rfl⟩) hHeld ?_
                        simp only [Act.put, List.getElem_toArray, List.getElem_cons_zero, List.getElem_cons_succ, List.setIfInBounds_toArray, List.set_cons_zero, List.set_cons_succ]
                        refine wpAnyG_take (i := 5) (v := undef) rfl (by kernel_rfl) (fun _ _ _ h => h) (Or.inr ⟨by kernel_rfl, rfl⟩) hHeld ?_
                        simp only [Act.put, List.getElem_toArray, List.getElem_cons_zero, List.getElem_cons_succ, List.setIfInBounds_toArray, List.set_cons_zero, List.set_cons_succ]
                        refine wpAnyG_take (i := 6) (v := undef) rfl (by kernel_rfl) (fun _ _ _ h => h) (Or.inr ⟨by kernel_rfl, rfl⟩) hHeld ?_
                        simp only [Act.put, List.getElem_toArray, List.getElem_cons_zero, List.getElem_cons_succ, List.setIfInBounds_toArray, List.set_cons_zero, List.set_cons_succ]
                        refine wpAnyG_take (i := 7) (v := undef) rfl (by kernel_rfl) (fun _ _ _ h => h) (Or.inr ⟨by kernel_rfl, rfl⟩) hHeld ?_
                        simp only [Act.put, List.getElem_toArray, List.getElem_cons_zero, List.getElem_cons_succ, List.setIfInBounds_toArray, List.set_cons_zero, List.set_cons_succ]
                        refine wpAnyG_take (i := 8) (v := undef) rfl (by kernel_rfl) (fun _ _ _ h => h) (Or.inr ⟨by kernel_rfl, rfl⟩) hHeld ?_
                        simp only [Act.put, List.getElem_toArray, List.getElem_cons_zero, List.getElem_cons_succ, List.setIfInBounds_toArray, List.set_cons_zero, List.set_cons_succ]
                        refine wpAnyG_take (i := 9) (v := undef) rfl (by kernel_rfl) (fun _ _ _ h => h) (Or.inr ⟨by kernel_rfl, rfl⟩) hHeld ?_
                        simp only [Act.put, List.getElem_toArray, List.getElem_cons_zero, List.getElem_cons_succ, List.setIfInBounds_toArray, List.set_cons_zero, List.set_cons_succ]
                        refine wpAnyG_take (i := 10) (v := undef) rfl (by kernel_rfl) (fun _ _ _ h => h) (Or.inr ⟨by kernel_rfl, rfl⟩) hHeld ?_
                        simp only [Act.put, List.getElem_toArray, List.getElem_cons_zero, List.getElem_cons_succ, List.setIfInBounds_toArray, List.set_cons_zero, List.set_cons_succ]
                        refine wpAnyG_take (i := 11) (v := undef) rfl (by kernel_rfl) (fun _ _ _ h => h) (Or.inr ⟨by kernel_rfl, rfl⟩) hHeld ?_
                        simp only [Act.put, List.getElem_toArray, List.getElem_cons_zero, List.getElem_cons_succ, List.setIfInBounds_toArray, List.set_cons_zero, List.set_cons_succ]
                        refine wpAnyG_take (i := 12) (v := undef) rfl (by kernel_rfl) (fun _ _ _ h => h) (Or.inr ⟨by kernel_rfl, rfl⟩) hHeld ?_
                        simp only [Act.put, List.getElem_toArray, List.getElem_cons_zero, List.getElem_cons_succ, List.setIfInBounds_toArray, List.set_cons_zero, List.set_cons_succ]
                        refine wpAnyG_take (i := 13) (v := undef) rfl (by kernel_rfl) (fun _ _ _ h => h) (Or.inr ⟨by kernel_rfl, rfl⟩) hHeld ?_
                        simp only [Act.put, List.getElem_toArray, List.getElem_cons_zero, List.getElem_cons_succ, List.setIfInBounds_toArray, List.set_cons_zero, List.set_cons_succ]
                        refine wpAnyG_take (i := 14) (v := undef) rfl (by kernel_rfl) (fun _ _ _ h => h) (Or.inr ⟨by kernel_rfl, rfl⟩) hHeld ?_
                        simp only [Act.put, List.getElem_toArray, List.getElem_cons_zero, List.getElem_cons_succ, List.setIfInBounds_toArray, List.set_cons_zero, List.set_cons_succ]
                        refine wpAnyG_take (i := 15) (v := .bool true) rfl (by kernel_rfl) (fun _ _ _ h => h) (Or.inl ⟨by kernel_rfl, ?y15x94⟩) hHeld ?r15x94
                        case y15x94 => (intro wS hSw; go_simp)
                        simp only [Act.put, List.getElem_toArray, List.getElem_cons_zero, List.getElem_cons_succ, List.setIfInBounds_toArray, List.set_cons_zero, List.set_cons_succ]
                        refine wpAnyG_last (i := 16) rfl (by kernel_rfl) (by kernel_rfl) (fun K hK => ?_)
                        go_simp
                        refine hK.out _ _ ?_
                        clear hK K
                        refine wpAnyG_done (by kernel_rfl) ?_ _
                        go_wp2
                        go_roundg (N - (j + 1))
                        case rel =>
                          refine ⟨true, j + 1, rfl, by go_num, rfl, by omega, ?_, HB8.out.1.below (Below.refl _ _).drew, HB8.out.2.1.drew, HB8.out.2.2.below (Below.refl _ _).drew (Nat.le_refl _)⟩
                          rw [HT1.out, List.mem_append, ← HBB.out]
                          simp
                        case measure => have := HKj.out; omega
                    · have tj : decide ((j : Int) < (N : Int)) = false := decide_eq_false (by omega)
                      obtain rfl : B = true := by
                        rw [HBB.out, List.take_of_length_le (by have := HN.out; omega)]
                        exact HQ.out
                      have HB9 : Hid (Mw w wr g L ∧ Cl bt (tl3 t) 42 wr) := ⟨HB8.out.1, HB8.out.2.1⟩
                      go_wp2
                      go_roundg (2 - (k + 1))
                      case rel => exact ⟨k + 1, by go_num, rfl, (by have := HKt.out; omega), HB9.out⟩
                      case measure => have := HKk.out; have := HKt.out; omega
          · have tk : decide ((k : Int) < 2) = false := decide_eq_false (by omega)
            go_wp2
            go_roundg (N - (i + 1))
            case rel => exact ⟨i + 1, by go_num, rfl, by omega, HB.out.1⟩
            case measure => have := HK.out; omega
    · have ti : decide ((i : Int) < (N : Int)) = false := decide_eq_false (by omega)
      clear h3
      go_wp2
      go_ret
      exact ⟨rfl, HW.out.k⟩

end Go.Proofs.Ytcbepaionliepaa
