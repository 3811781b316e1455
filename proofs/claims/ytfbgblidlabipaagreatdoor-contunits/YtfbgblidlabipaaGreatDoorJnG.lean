import Derived.Test.YtfbgblidlabipaaGreatDoorBigM
import Derived.Test.YtfbgblidlabipaaGreatDoorJnE
import Derived.Test.YtfbgblidlabipaaGreatDoorJnA
import Derived.Test.YtfbgblidlabipaaGreatDoorJnD
import Derived.Test.YtfbgblidlabipaaGreatDoorJnB
section
/- Contracts of numbers of any length: QuoRem, Quo, DivMod, Mod. -/
set_option linter.unusedSimpArgs false
set_option linter.unusedVariables false
set_option maxRecDepth 100000
namespace Go.Proofs.YtfbgblidlabipaaGreatDoor
open Go.RowKit

/-- w' is w with new blocks, and with writes to the blocks b and c alone. -/
structure Upd2 (b c : Nat) (w w' : World) : Prop where
  os : w'.os = w.os
  tape : w'.tape = w.tape
  output : w'.output = w.output
  size : w.heap.size ≤ w'.heap.size
  block : ∀ k, k < w.heap.size → k ≠ b → k ≠ c → w'.heap[k]? = w.heap[k]?

theorem Upd.two {b : Nat} {w w' : World} (h : Upd b w w') (c : Nat) : Upd2 b c w w' := ⟨h.os, h.tape, h.output, h.size, fun k hk h1 _ => h.block k hk h1⟩
theorem Upd.two' {b : Nat} {w w' : World} (h : Upd b w w') (c : Nat) : Upd2 c b w w' := ⟨h.os, h.tape, h.output, h.size, fun k hk _ h1 => h.block k hk h1⟩
theorem Upd2.trans {b c : Nat} {x y z : World} (h : Upd2 b c x y) (k : Upd2 b c y z) : Upd2 b c x z :=
  ⟨k.os.trans h.os, k.tape.trans h.tape, k.output.trans h.output, Nat.le_trans h.size k.size, fun i hi h1 h2 => (k.block i (Nat.lt_of_lt_of_le hi h.size) h1 h2).trans (h.block i hi h1 h2)⟩
theorem Upd2.of_below {b c : Nat} {w w' : World} (h : Below w.heap.size w w') : Upd2 b c w w' := (Upd.of_below (b := b) h).two c
theorem Upd2.refl (b c : Nat) (w : World) : Upd2 b c w w := (Upd.refl b w).two c
theorem Upd2.drewN {b c n : Nat} {x y : World} (h : Upd2 b c x y) : Upd2 b c x (y.drewN n) := ⟨h.os, h.tape, h.output, h.size, h.block⟩
theorem Slot.upd2 {b c d : Nat} {w w' : World} (h : Slot w d) (hu : Upd2 b c w w') (h1 : d ≠ b) (h2 : d ≠ c) : Slot w' d := by
  obtain ⟨x, y, h3⟩ := h
  exact ⟨x, y, by rw [hu.block d (lt_of_some h3) h1 h2]; exact h3⟩
theorem Sl.upd2 {b c : Nat} {w w' : World} {s : Value} {l : List Nat} (h : Sl w s l) (hu : Upd2 b c w w') (hb : Slot w b) (hc : Slot w c) : Sl w' s l := by
  refine ⟨h.small, ?_⟩
  rcases h.shape with h1 | ⟨g, cap, C, h1, h2, h3, h4⟩
  · exact Or.inl h1
  · refine Or.inr ⟨g, cap, C, h1, h2, ?_, h4⟩
    rw [hu.block g (lt_of_some h3) ?_ ?_]; exact h3
    · intro e; subst e; obtain ⟨x, y, h5⟩ := hb; rw [h3] at h5; simp at h5
    · intro e; subst e; obtain ⟨x, y, h5⟩ := hc; rw [h3] at h5; simp at h5
theorem BigAt.upd2 {b c d : Nat} {w w' : World} {n : Int} (h : BigAt w d n) (hu : Upd2 b c w w') (hb : Slot w b) (hc : Slot w c) (h1 : d ≠ b) (h2 : d ≠ c) : BigAt w' d n := by
  obtain ⟨s, h3, l, h4, h5⟩ := h
  exact ⟨s, by rw [hu.block d (lt_of_some h3) h1 h2]; exact h3, l, h4.upd2 hu hb hc, h5⟩
theorem Upd2.swap {b c : Nat} {w w' : World} (h : Upd2 b c w w') : Upd2 c b w w' := ⟨h.os, h.tape, h.output, h.size, fun k hk h1 h2 => h.block k hk h2 h1⟩
/-- The first block is new: only the second one is written. -/
theorem Upd2.fresh {b c : Nat} {w w1 w' : World} (h0 : Below w.heap.size w w1) (hb : w.heap.size ≤ b) (h : Upd2 b c w1 w') : Upd c w w' :=
  ⟨h.os.trans h0.os, h.tape.trans h0.tape, h.output.trans h0.output, Nat.le_trans h0.size h.size, fun k hk h1 => (h.block k (Nat.lt_of_lt_of_le hk h0.size) (by omega) h1).trans (h0.block k hk)⟩

theorem sgd_div (x y : Int) : sgd (decide (x < 0) != decide (y < 0)) (x.natAbs / y.natAbs) = x.tdiv y := by
  rcases Int.lt_or_le x 0 with hx | hx <;> rcases Int.lt_or_le y 0 with hy | hy
  · rw [decide_eq_true hx, decide_eq_true hy]
    obtain ⟨a, rfl⟩ : ∃ a : Nat, x = -(a : Int) := ⟨x.natAbs, by omega⟩
    obtain ⟨b, rfl⟩ : ∃ b : Nat, y = -(b : Int) := ⟨y.natAbs, by omega⟩
    show (((-(a : Int)).natAbs / (-(b : Int)).natAbs : Nat) : Int) = _
    rw [Int.natAbs_neg, Int.natAbs_natCast, Int.natAbs_neg, Int.natAbs_natCast, Int.neg_tdiv, Int.tdiv_neg, Int.neg_neg, Int.ofNat_tdiv]
  · rw [decide_eq_true hx, decide_eq_false (Int.not_lt.2 hy)]
    obtain ⟨a, rfl⟩ : ∃ a : Nat, x = -(a : Int) := ⟨x.natAbs, by omega⟩
    obtain ⟨b, rfl⟩ : ∃ b : Nat, y = (b : Int) := ⟨y.natAbs, by omega⟩
    show -(((-(a : Int)).natAbs / (b : Int).natAbs : Nat) : Int) = _
    rw [Int.natAbs_neg, Int.natAbs_natCast, Int.natAbs_natCast, Int.neg_tdiv, Int.ofNat_tdiv]
  · rw [decide_eq_false (Int.not_lt.2 hx), decide_eq_true hy]
    obtain ⟨a, rfl⟩ : ∃ a : Nat, x = (a : Int) := ⟨x.natAbs, by omega⟩
    obtain ⟨b, rfl⟩ : ∃ b : Nat, y = -(b : Int) := ⟨y.natAbs, by omega⟩
    show -(((a : Int).natAbs / (-(b : Int)).natAbs : Nat) : Int) = _
    rw [Int.natAbs_neg, Int.natAbs_natCast, Int.natAbs_natCast, Int.tdiv_neg, Int.ofNat_tdiv]
  · rw [decide_eq_false (Int.not_lt.2 hx), decide_eq_false (Int.not_lt.2 hy)]
    obtain ⟨a, rfl⟩ : ∃ a : Nat, x = (a : Int) := ⟨x.natAbs, by omega⟩
    obtain ⟨b, rfl⟩ : ∃ b : Nat, y = (b : Int) := ⟨y.natAbs, by omega⟩
    show (((a : Int).natAbs / (b : Int).natAbs : Nat) : Int) = _
    rw [Int.natAbs_natCast, Int.natAbs_natCast, Int.ofNat_tdiv]
theorem sgd_mod (x y : Int) : sgd (decide (x < 0)) (x.natAbs % y.natAbs) = x.tmod y := by
  have h : x.tmod y = x.tmod (y.natAbs : Int) := by
    rcases Int.natAbs_eq y with e | e
    · rw [← e]
    · rw [e, Int.tmod_neg, Int.natAbs_neg]; rfl
  rw [h]
  rcases Int.lt_or_le x 0 with hx | hx
  · rw [decide_eq_true hx]
    obtain ⟨a, rfl⟩ : ∃ a : Nat, x = -(a : Int) := ⟨x.natAbs, by omega⟩
    show -(((-(a : Int)).natAbs % y.natAbs : Nat) : Int) = _
    rw [Int.natAbs_neg, Int.natAbs_natCast, Int.neg_tmod, Int.ofNat_tmod]
  · rw [decide_eq_false (Int.not_lt.2 hx)]
    obtain ⟨a, rfl⟩ : ∃ a : Nat, x = (a : Int) := ⟨x.natAbs, by omega⟩
    show (((a : Int).natAbs % y.natAbs : Nat) : Int) = _
    rw [Int.natAbs_natCast, Int.ofNat_tmod]

/-- From the rest with the dividend's sign to the rest that is no less than 0. -/
theorem euclid_rest {x y : Int} (hy : y ≠ 0) : (¬ x.tmod y < 0 → x / y = x.tdiv y ∧ x % y = x.tmod y) ∧ (x.tmod y < 0 → y < 0 → x / y = x.tdiv y + 1 ∧ x % y = x.tmod y - y) ∧ (x.tmod y < 0 → ¬ y < 0 → x / y = x.tdiv y - 1 ∧ x % y = x.tmod y + y) := by
  have h1 := Int.tmod_add_mul_tdiv x y
  have h2 := Int.emod_add_mul_ediv x y
  have h3 := Int.emod_nonneg x hy
  have h4 : x % y < (y.natAbs : Int) := Int.emod_lt x hy
  have h5 : (x.tmod y).natAbs < y.natAbs := by rw [Int.natAbs_tmod]; exact Nat.mod_lt _ (by omega)
  -- y (tdiv - ediv) = emod - tmod
  have h6 : y * (x.tdiv y - x / y) = x % y - x.tmod y := by rw [Int.mul_sub]; omega
  generalize x.tdiv y = T at *
  generalize x / y = E at *
  generalize x % y = e at *
  generalize x.tmod y = t at *
  have key : ∀ k : Int, e - t = y * k → T - E = k := by
    intro k hk
    rw [← h6] at hk
    exact Int.eq_of_mul_eq_mul_left hy hk
  refine ⟨fun h => ?_, fun h hn => ?_, fun h hn => ?_⟩
  · have hz : T - E = 0 := by
      have h7 : (y * (T - E)).natAbs < y.natAbs := by rw [h6]; omega
      rw [Int.natAbs_mul] at h7
      have h8 : (T - E).natAbs < 1 := Nat.lt_of_mul_lt_mul_left (a := y.natAbs) (by omega)
      omega
    have h9 : y * (T - E) = 0 := by rw [hz, Int.mul_zero]
    omega
  · have hz : T - E = -1 := by
      have h7 : (y * (T - E + 1)).natAbs < y.natAbs := by rw [Int.mul_add, h6]; omega
      rw [Int.natAbs_mul] at h7
      have h8 : (T - E + 1).natAbs < 1 := Nat.lt_of_mul_lt_mul_left (a := y.natAbs) (by omega)
      omega
    have h9 : y * (T - E) = -y := by rw [hz]; omega
    omega
  · have hz : T - E = 1 := by
      have h7 : (y * (T - E - 1)).natAbs < y.natAbs := by rw [Int.mul_sub, h6]; omega
      rw [Int.natAbs_mul] at h7
      have h8 : (T - E - 1).natAbs < 1 := Nat.lt_of_mul_lt_mul_left (a := y.natAbs) (by omega)
      omega
    have h9 : y * (T - E) = y := by rw [hz]; omega
    omega

set_option maxHeartbeats 1000000 in
theorem QuoRem_any (bz bx by' br : Nat) (x y : Int) (m n : Nat) (w : World) (hz : Slot w bz) (hr : Slot w br) (hne : bz ≠ br) (hx : BigAt w bx x) (hy : BigAt w by' y) (hy0 : y ≠ 0) (hm : x.natAbs < pw m) (hn : y.natAbs < pw n) (hm' : m ≤ 100000000) (hn' : n ≤ 100000000) :
    Calls Tryz.prog 117 #[.pointer (some ⟨bz, 0, none⟩), .pointer (some ⟨bx, 0, none⟩), .pointer (some ⟨by', 0, none⟩), .pointer (some ⟨br, 0, none⟩)] w fun e w' => e = .returned (.tuple #[.pointer (some ⟨bz, 0, none⟩), .pointer (some ⟨br, 0, none⟩)]) ∧ BigAt w' bz (x.tdiv y) ∧ BigAt w' br (x.tmod y) ∧ Upd2 bz br w w' := by
  obtain ⟨xa, xl, xc, cx0, cx1, nx, _⟩ := hx.open
  obtain ⟨ya, yl, yc, cy0, cy1, ny, _⟩ := hy.open
  have lx := hx.lt
  have ly := hy.lt
  have HZ : Hid (Slot w bz) := hz
  have HRR : Hid (Slot w br) := hr
  have NX : Hid (NS w (.slice xa xl xc) x.natAbs) := nx
  have NY : Hid (NS w (.slice ya yl yc) y.natAbs) := ny
  have HM : Hid (x.natAbs < pw m) := hm
  have HN : Hid (y.natAbs < pw n) := hn
  have HY0 : Hid (0 < y.natAbs) := by show _ < _; omega
  clear hx hy hz hr nx ny hm hn hy0
  obtain ⟨p, hp⟩ : ∃ p, p = decide (x < 0) := ⟨_, rfl⟩
  obtain ⟨q, hq⟩ : ∃ q, q = decide (y < 0) := ⟨_, rfl⟩
  rw [← hp] at cx0
  rw [← hq] at cy0
  have HD : Hid (sgd (p != q) (x.natAbs / y.natAbs) = x.tdiv y) := by show _ = _; rw [hp, hq, sgd_div]
  have HMD : Hid (sgd p (x.natAbs % y.natAbs) = x.tmod y) := by show _ = _; rw [hp, sgd_mod]
  clear hp hq
  go_enter Tryz.func117, Tryz.ntmps117
  go_wp2
  go_quiet (fail)
  generalize hw1 : w.drewN nq = w1
  have e1 : w1.heap.size = w.heap.size := by rw [← hw1]; rfl
  have cx : w1.cell? ⟨bx, 1, none⟩ = some (.slice xa xl xc) := by rw [← hw1]; exact cx1
  have cy : w1.cell? ⟨by', 1, none⟩ = some (.slice ya yl yc) := by rw [← hw1]; exact cy1
  have NX1 : Hid (NS w1 (.slice xa xl xc) x.natAbs) := by rw [← hw1]; exact NX.out.drewN
  have NY1 : Hid (NS w1 (.slice ya yl yc) y.natAbs) := by rw [← hw1]; exact NY.out.drewN
  have HZ1 : Hid (Slot w1 bz) := by rw [← hw1]; exact HZ.out
  have HRR1 : Hid (Slot w1 br) := by rw [← hw1]; exact HRR.out
  have HU1 : Hid (Upd2 bz br w w1) := by rw [← hw1]; exact (Upd2.refl bz br w).drewN
  clear hw1 NX NY HZ HRR cx0 cx1 cy0 cy1
  go_wp2_with fail
  refine wp_region_G (fun w' => w'.cell? ⟨bx, 1, none⟩ = some (.slice xa xl xc) ∧ w'.cell? ⟨by', 1, none⟩ = some (.slice ya yl yc)) 13 (by kernel_rfl) ⟨cx, cy⟩ (fun hHeld => ?_)
  refine wpAnyG_take (i := 0) (v := ?v0) rfl (by kernel_rfl) (fun _ _ _ h => h) (Or.inl ⟨by rfl, ?y0⟩) hHeld ?r0
  case y0 => (intro wS hSw; obtain ⟨s1, s2⟩ := hSw; go_simp; try with_reducible rfl)
  try simp only [Act.put, List.setIfInBounds_toArray, List.set_cons_zero, List.set_cons_succ]
  refine wpAnyG_take (i := 1) (v := ?v1) rfl (by kernel_rfl) (fun _ _ _ h => h) (Or.inl ⟨by rfl, ?y1⟩) hHeld ?r1
  case y1 => (intro wS hSw; obtain ⟨s1, s2⟩ := hSw; go_simp; try with_reducible rfl)
  try simp only [Act.put, List.setIfInBounds_toArray, List.set_cons_zero, List.set_cons_succ]
  refine wpAnyG_take (i := 2) (v := ?v2) rfl (by kernel_rfl) (fun _ _ _ h => h) (Or.inl ⟨by rfl, ?y2⟩) hHeld ?r2
  case y2 => (intro wS hSw; obtain ⟨s1, s2⟩ := hSw; go_simp; try with_reducible rfl)
  try simp only [Act.put, List.setIfInBounds_toArray, List.set_cons_zero, List.set_cons_succ]
  refine wpAnyG_take (i := 3) (v := ?v3) rfl (by kernel_rfl) (fun _ _ _ h => h) (Or.inl ⟨by rfl, ?y3⟩) hHeld ?r3
  case y3 => (intro wS hSw; obtain ⟨s1, s2⟩ := hSw; go_simp; try with_reducible rfl)
  try simp only [Act.put, List.setIfInBounds_toArray, List.set_cons_zero, List.set_cons_succ]
  refine wpAnyG_take (i := 4) (v := ?v4) rfl (by kernel_rfl) (fun _ _ _ h => h) (Or.inl ⟨by rfl, ?y4⟩) hHeld ?r4
  case y4 => (intro wS hSw; obtain ⟨s1, s2⟩ := hSw; go_simp; try with_reducible rfl)
  try simp only [Act.put, List.setIfInBounds_toArray, List.set_cons_zero, List.set_cons_succ]
  refine wpAnyG_take (i := 5) (v := ?v5) rfl (by kernel_rfl) (fun _ _ _ h => h) (Or.inl ⟨by rfl, ?y5⟩) hHeld ?r5
  case y5 => (intro wS hSw; obtain ⟨s1, s2⟩ := hSw; go_simp; try with_reducible rfl)
  try simp only [Act.put, List.setIfInBounds_toArray, List.set_cons_zero, List.set_cons_succ]
  refine wpAnyG_take (i := 6) (v := ?v6) rfl (by kernel_rfl) (fun _ _ _ h => h) (Or.inl ⟨by rfl, ?y6⟩) hHeld ?r6
  case y6 => (intro wS hSw; obtain ⟨s1, s2⟩ := hSw; go_simp; try with_reducible rfl)
  try simp only [Act.put, List.setIfInBounds_toArray, List.set_cons_zero, List.set_cons_succ]
  refine wpAnyG_take (i := 7) (v := ?v7) rfl (by kernel_rfl) (fun _ _ _ h => h) (Or.inl ⟨by rfl, ?y7⟩) hHeld ?r7
  case y7 => (intro wS hSw; obtain ⟨s1, s2⟩ := hSw; go_simp; try with_reducible rfl)
  try simp only [Act.put, List.setIfInBounds_toArray, List.set_cons_zero, List.set_cons_succ]
  refine wpAnyG_one (i := 8) rfl (by kernel_rfl) (fun K hK => ?_)
  go_simp
  refine (div_any _ _ x.natAbs y.natAbs m n _ NX1.out.drew NY1.out.drew HM.out HN.out hm' hn' HY0.out).mono ?_
  rintro e w2 ⟨r1, r2, rfl, hq1, hq2, hb⟩
  obtain ⟨qa, ql, qc, rfl, _⟩ := hq1.shape
  obtain ⟨ta, tl, tc, rfl, _⟩ := hq2.shape
  clear hHeld
  have hHeld : w2.cell? ⟨bx, 1, none⟩ = some (.slice xa xl xc) ∧ w2.cell? ⟨by', 1, none⟩ = some (.slice ya yl yc) := ⟨(hb.cell (p := ⟨bx, 1, none⟩) (show bx < w1.heap.size by omega)).trans cx, (hb.cell (p := ⟨by', 1, none⟩) (show by' < w1.heap.size by omega)).trans cy⟩
  refine hK.out _ _ hHeld ?_
  clear hK K
  try simp only [Act.put, List.setIfInBounds_toArray, List.set_cons_zero, List.set_cons_succ]
  refine wpAnyG_one (i := 9) rfl (by kernel_rfl) (fun K hK => ?_)
  go_simp
  refine hK.out _ _ hHeld ?_
  clear hK K
  try simp only [Act.put, List.setIfInBounds_toArray, List.set_cons_zero, List.set_cons_succ]
  refine wpAnyG_take (i := 10) (v := ?v10) rfl (by kernel_rfl) (fun _ _ _ h => h) (Or.inl ⟨by rfl, ?y10⟩) hHeld ?r10
  case y10 => (intro wS hSw; obtain ⟨s1, s2⟩ := hSw; go_simp; try with_reducible rfl)
  try simp only [Act.put, List.setIfInBounds_toArray, List.set_cons_zero, List.set_cons_succ]
  refine wpAnyG_take (i := 11) (v := ?v11) rfl (by kernel_rfl) (fun _ _ _ h => h) (Or.inl ⟨by rfl, ?y11⟩) hHeld ?r11
  case y11 => (intro wS hSw; obtain ⟨s1, s2⟩ := hSw; go_simp; try with_reducible rfl)
  try simp only [Act.put, List.setIfInBounds_toArray, List.set_cons_zero, List.set_cons_succ]
  refine wpAnyG_one (i := 12) rfl (by kernel_rfl) (fun K hK => ?_)
  go_simp
  refine hK.out _ _ hHeld ?_
  clear hK K
  try simp only [Act.put, List.setIfInBounds_toArray, List.set_cons_zero, List.set_cons_succ]
  refine wpAnyG_last (i := 13) rfl (by kernel_rfl) (by kernel_rfl) (fun K hK => ?_)
  go_simp
  refine hK.out _ _ ?_
  clear hK K
  try simp only [Act.put, List.setIfInBounds_toArray, List.set_cons_zero, List.set_cons_succ]
  refine wpAnyG_done (by kernel_rfl) ?_ _
  have HQ1 : Hid (NS w2 (.slice qa ql qc) (x.natAbs / y.natAbs)) := hq1
  have HQ2 : Hid (NS w2 (.slice ta tl tc) (x.natAbs % y.natAbs)) := hq2
  have HZ2 : Hid (Slot w2 bz) := HZ1.out.drew.below hb (Nat.le_refl _)
  have HRR2 : Hid (Slot w2 br) := HRR1.out.drew.below hb (Nat.le_refl _)
  have HU2 : Hid (Upd2 bz br w w2) := HU1.out.trans (((Upd.refl bz w1).drew.two br).trans (Upd2.of_below hb))
  clear hHeld hq1 hq2 hb cx cy
  go_wp2_with fail
  refine (give_any bz (p != q) _ (x.natAbs / y.natAbs) _ HZ2.out HQ1.out).mono ?_
  rw [HD.out]
  rintro e w3 ⟨rfl, hbig, hu⟩
  have HB3 : Hid (BigAt w3 bz (x.tdiv y)) := hbig
  have HU3 : Hid (Upd bz w2 w3) := hu
  clear hbig hu
  go_wp2_with fail
  refine (give_any br p _ (x.natAbs % y.natAbs) _ (HRR2.out.upd HU3.out (Ne.symm hne)) (HQ2.out.upd HU3.out HZ2.out)).mono ?_
  rw [HMD.out]
  rintro e w4 ⟨rfl, hbig, hu⟩
  have HB4 : Hid (BigAt w4 br (x.tmod y)) := hbig
  have HU4 : Hid (Upd br w3 w4) := hu
  clear hbig hu
  go_wp2
  go_ret2
  exact ⟨rfl, HB3.out.upd HU4.out (HRR2.out.upd HU3.out (Ne.symm hne)) hne, HB4.out, (HU2.out.trans (HU3.out.two br)).trans (HU4.out.two' bz)⟩

set_option maxHeartbeats 1000000 in
theorem DivMod_any (bz bx by' br : Nat) (x y : Int) (m n : Nat) (w : World) (hz : Slot w bz) (hr : Slot w br) (hne : bz ≠ br) (hx : BigAt w bx x) (hy : BigAt w by' y) (hy0 : y ≠ 0) (hm : x.natAbs < pw m) (hn : y.natAbs < pw n) (hm' : m ≤ 100000000) (hn' : n ≤ 100000000) :
    Calls Tryz.prog 125 #[.pointer (some ⟨bz, 0, none⟩), .pointer (some ⟨bx, 0, none⟩), .pointer (some ⟨by', 0, none⟩), .pointer (some ⟨br, 0, none⟩)] w fun e w' => e = .returned (.tuple #[.pointer (some ⟨bz, 0, none⟩), .pointer (some ⟨br, 0, none⟩)]) ∧ BigAt w' bz (x / y) ∧ BigAt w' br (x % y) ∧ Upd2 bz br w w' := by
  have lz := hz.lt
  have lr := hr.lt
  have HZ : Hid (Slot w bz) := hz
  have HRR : Hid (Slot w br) := hr
  have HX : Hid (BigAt w bx x) := hx
  have HY : Hid (BigAt w by' y) := hy
  have HM : Hid (x.natAbs < pw m) := hm
  have HN : Hid (y.natAbs < pw n) := hn
  have HE := euclid_rest (x := x) hy0
  have HE' : Hid ((¬ x.tmod y < 0 → x / y = x.tdiv y ∧ x % y = x.tmod y) ∧ (x.tmod y < 0 → y < 0 → x / y = x.tdiv y + 1 ∧ x % y = x.tmod y - y) ∧ (x.tmod y < 0 → ¬ y < 0 → x / y = x.tdiv y - 1 ∧ x % y = x.tmod y + y)) := HE
  have HB1 : Hid ((x.tdiv y).natAbs < pw m) := by
    show _ < _
    rw [Int.natAbs_tdiv]
    exact Nat.lt_of_le_of_lt (Nat.div_le_self ..) hm
  have HB2 : Hid ((x.tmod y).natAbs < pw n) := by
    show _ < _
    rw [Int.natAbs_tmod]
    exact Nat.lt_trans (Nat.mod_lt _ (by omega)) hn
  have HY0 : Hid (y ≠ 0) := hy0
  clear hx hy hz hr hm hn hy0 HE
  go_enter Tryz.func125, Tryz.ntmps125
  go_wp2_with fail
  refine (Set_any w.heap.size by' y n _ (slot_new w _ _) (HY.out.below (Below.alloc_self' w _) (Nat.le_refl _)) HN.out hn').mono ?_
  rintro e w1 ⟨rfl, hbig, hu⟩
  have hb1 : Below w.heap.size w w1 := (Below.alloc_self' w _).trans (hu.below (by simp) (Nat.le_refl _))
  have D1 : Hid (BigAt w1 w.heap.size y) := hbig
  have X1 : Hid (BigAt w1 bx x) := HX.out.below hb1 (Nat.le_refl _)
  have Y1 : Hid (BigAt w1 by' y) := HY.out.below hb1 (Nat.le_refl _)
  have Z1 : Hid (Slot w1 bz) := HZ.out.below hb1 (Nat.le_refl _)
  have R1 : Hid (Slot w1 br) := HRR.out.below hb1 (Nat.le_refl _)
  have U1 : Hid (Upd2 bz br w w1) := Upd2.of_below hb1
  clear hbig hu hb1 HX HY HZ HRR
  go_wp2_with fail
  refine (QuoRem_any bz bx by' br x y m n w1 Z1.out R1.out hne X1.out Y1.out HY0.out HM.out HN.out hm' hn').mono ?_
  rintro e w2 ⟨rfl, hb2, hb3, hu2⟩
  have D2 : Hid (BigAt w2 w.heap.size y) := D1.out.upd2 hu2 Z1.out R1.out (by omega) (by omega)
  have Z2 : Hid (BigAt w2 bz (x.tdiv y)) := hb2
  have R2 : Hid (BigAt w2 br (x.tmod y)) := hb3
  have U2 : Hid (Upd2 bz br w w2) := U1.out.trans hu2
  obtain ⟨ra, rl, rc, cr0, cr1, nr, _⟩ := hb3.open
  obtain ⟨da, dl, dc, cd0, cd1, nd, _⟩ := D2.out.open
  clear hb2 hb3 hu2 D1 X1 Y1 Z1 R1 U1 nr nd cr1 cd1
  by_cases hneg : x.tmod y < 0
  · rw [decide_eq_true hneg] at cr0
    by_cases hyn : y < 0
    · rw [decide_eq_true hyn] at cd0
      go_wp2_with fail
      refine (NewInt_any 1 w2 (by omega) (by omega)).mono ?_
      rintro e w3 ⟨b3, rfl, hb3, h1, k3⟩
      have D3 : Hid (BigAt w3 w.heap.size y) := D2.out.below k3 (Nat.le_refl _)
      have Z3 : Hid (BigAt w3 bz (x.tdiv y)) := Z2.out.below k3 (Nat.le_refl _)
      have R3 : Hid (BigAt w3 br (x.tmod y)) := R2.out.below k3 (Nat.le_refl _)
      have U3 : Hid (Upd2 bz br w w3) := U2.out.trans (Upd2.of_below k3)
      have O3 : Hid (BigAt w3 b3 1) := h1
      clear h1 k3 D2 Z2 R2 U2
      go_wp2_with fail
      refine (Add_any bz bz b3 (x.tdiv y) 1 m 1 w3 Z3.out.slot Z3.out O3.out HB1.out (by decide) hm' (by omega)).mono ?_
      rintro e w4 ⟨rfl, h4, k4⟩
      have D4 : Hid (BigAt w4 w.heap.size y) := D3.out.upd k4 Z3.out.slot (by omega)
      have R4 : Hid (BigAt w4 br (x.tmod y)) := R3.out.upd k4 Z3.out.slot (Ne.symm hne)
      have Z4 : Hid (BigAt w4 bz (x.tdiv y + 1)) := h4
      have U4 : Hid (Upd2 bz br w w4) := U3.out.trans (k4.two br)
      clear h4 k4 D3 Z3 R3 U3 O3
      go_wp2_with fail
      refine (Sub_any br br w.heap.size (x.tmod y) y n n w4 R4.out.slot R4.out D4.out HB2.out HN.out hn' hn').mono ?_
      rintro e w5 ⟨rfl, h5, k5⟩
      have Z5 : Hid (BigAt w5 bz (x.tdiv y + 1)) := Z4.out.upd k5 R4.out.slot hne
      have U5 : Hid (Upd2 bz br w w5) := U4.out.trans (k5.two' bz)
      have R5 : Hid (BigAt w5 br (x.tmod y - y)) := h5
      obtain ⟨f1, f2⟩ := HE'.out.2.1 hneg hyn
      clear h5 k5
      go_wp2
      go_ret2
      rw [f1, f2]
      exact ⟨rfl, Z5.out, R5.out, U5.out⟩
    · rw [decide_eq_false hyn] at cd0
      go_wp2_with fail
      refine (NewInt_any 1 w2 (by omega) (by omega)).mono ?_
      rintro e w3 ⟨b3, rfl, hb3, h1, k3⟩
      have D3 : Hid (BigAt w3 w.heap.size y) := D2.out.below k3 (Nat.le_refl _)
      have Z3 : Hid (BigAt w3 bz (x.tdiv y)) := Z2.out.below k3 (Nat.le_refl _)
      have R3 : Hid (BigAt w3 br (x.tmod y)) := R2.out.below k3 (Nat.le_refl _)
      have U3 : Hid (Upd2 bz br w w3) := U2.out.trans (Upd2.of_below k3)
      have O3 : Hid (BigAt w3 b3 1) := h1
      clear h1 k3 D2 Z2 R2 U2
      go_wp2_with fail
      refine (Sub_any bz bz b3 (x.tdiv y) 1 m 1 w3 Z3.out.slot Z3.out O3.out HB1.out (by decide) hm' (by omega)).mono ?_
      rintro e w4 ⟨rfl, h4, k4⟩
      have D4 : Hid (BigAt w4 w.heap.size y) := D3.out.upd k4 Z3.out.slot (by omega)
      have R4 : Hid (BigAt w4 br (x.tmod y)) := R3.out.upd k4 Z3.out.slot (Ne.symm hne)
      have Z4 : Hid (BigAt w4 bz (x.tdiv y - 1)) := h4
      have U4 : Hid (Upd2 bz br w w4) := U3.out.trans (k4.two br)
      clear h4 k4 D3 Z3 R3 U3 O3
      go_wp2_with fail
      refine (Add_any br br w.heap.size (x.tmod y) y n n w4 R4.out.slot R4.out D4.out HB2.out HN.out hn' hn').mono ?_
      rintro e w5 ⟨rfl, h5, k5⟩
      have Z5 : Hid (BigAt w5 bz (x.tdiv y - 1)) := Z4.out.upd k5 R4.out.slot hne
      have U5 : Hid (Upd2 bz br w w5) := U4.out.trans (k5.two' bz)
      have R5 : Hid (BigAt w5 br (x.tmod y + y)) := h5
      obtain ⟨f1, f2⟩ := HE'.out.2.2 hneg (by omega)
      clear h5 k5
      go_wp2
      go_ret2
      rw [f1, f2]
      exact ⟨rfl, Z5.out, R5.out, U5.out⟩
  · rw [decide_eq_false hneg] at cr0
    obtain ⟨e1, e2⟩ := HE'.out.1 (Int.not_lt.1 hneg)
    go_wp2
    go_ret2
    rw [e1, e2]
    exact ⟨rfl, Z2.out, R2.out, U2.out⟩

theorem Mod_any (bz bx by' : Nat) (x y : Int) (m n : Nat) (w : World) (hz : Slot w bz) (hx : BigAt w bx x) (hy : BigAt w by' y) (hy0 : y ≠ 0) (hm : x.natAbs < pw m) (hn : y.natAbs < pw n) (hm' : m ≤ 100000000) (hn' : n ≤ 100000000) :
    Calls Tryz.prog 85 #[.pointer (some ⟨bz, 0, none⟩), .pointer (some ⟨bx, 0, none⟩), .pointer (some ⟨by', 0, none⟩)] w fun e w' => e = .returned (.pointer (some ⟨bz, 0, none⟩)) ∧ BigAt w' bz (x % y) ∧ Upd bz w w' := by
  have lz := hz.lt
  have HZ : Hid (Slot w bz) := hz
  have HX : Hid (BigAt w bx x) := hx
  have HY : Hid (BigAt w by' y) := hy
  have HM : Hid (x.natAbs < pw m) := hm
  have HN : Hid (y.natAbs < pw n) := hn
  have HY0 : Hid (y ≠ 0) := hy0
  clear hx hy hz hm hn hy0
  go_enter Tryz.func85, Tryz.ntmps85
  go_wp2_with fail
  refine (DivMod_any w.heap.size bx by' bz x y m n _ (slot_new w _ _) (HZ.out.below (Below.alloc_self' w _) (Nat.le_refl _)) (by omega) (HX.out.below (Below.alloc_self' w _) (Nat.le_refl _)) (HY.out.below (Below.alloc_self' w _) (Nat.le_refl _)) HY0.out HM.out HN.out hm' hn').mono ?_
  rintro e w1 ⟨rfl, _, h2, h3⟩
  go_wp2
  go_ret
  exact ⟨rfl, h2, h3.fresh (Below.alloc_self' w _) (Nat.le_refl _)⟩

theorem Quo_any (bz bx by' : Nat) (x y : Int) (m n : Nat) (w : World) (hz : Slot w bz) (hx : BigAt w bx x) (hy : BigAt w by' y) (hy0 : y ≠ 0) (hm : x.natAbs < pw m) (hn : y.natAbs < pw n) (hm' : m ≤ 100000000) (hn' : n ≤ 100000000) :
    Calls Tryz.prog 87 #[.pointer (some ⟨bz, 0, none⟩), .pointer (some ⟨bx, 0, none⟩), .pointer (some ⟨by', 0, none⟩)] w fun e w' => e = .returned (.pointer (some ⟨bz, 0, none⟩)) ∧ BigAt w' bz (x.tdiv y) ∧ Upd bz w w' := by
  have lz := hz.lt
  have HZ : Hid (Slot w bz) := hz
  have HX : Hid (BigAt w bx x) := hx
  have HY : Hid (BigAt w by' y) := hy
  have HM : Hid (x.natAbs < pw m) := hm
  have HN : Hid (y.natAbs < pw n) := hn
  have HY0 : Hid (y ≠ 0) := hy0
  clear hx hy hz hm hn hy0
  go_enter Tryz.func87, Tryz.ntmps87
  go_wp2_with fail
  refine (QuoRem_any bz bx by' w.heap.size x y m n _ (HZ.out.below (Below.alloc_self' w _) (Nat.le_refl _)) (slot_new w _ _) (by omega) (HX.out.below (Below.alloc_self' w _) (Nat.le_refl _)) (HY.out.below (Below.alloc_self' w _) (Nat.le_refl _)) HY0.out HM.out HN.out hm' hn').mono ?_
  rintro e w1 ⟨rfl, h2, _, h3⟩
  go_wp2
  go_ret
  exact ⟨rfl, h2, h3.swap.fresh (Below.alloc_self' w _) (Nat.le_refl _)⟩

end Go.Proofs.YtfbgblidlabipaaGreatDoor
end

section
/- Contracts of the document's answer for layer 1: F, NumbersFault, Gcd, Size, Left. -/
set_option linter.unusedSimpArgs false
set_option linter.unusedVariables false
set_option maxRecDepth 100000
namespace Go.Proofs.YtfbgblidlabipaaGreatDoor
open Go.RowKit

theorem F_any (c a : Int) (w : World) :
    Calls Tryz.prog 11 #[.int .i64 c, .int .i64 a] w fun e w' => e = .returned (.agg #[.int .i64 c, .int .i64 a]) ∧ Below w.heap.size w w' := by
  go_enter Tryz.func11, Tryz.ntmps11
  go_wp2
  refine bodyPost_ret (v := .agg #[.int .i64 c, .int .i64 a]) (by simp [results, Tryz.results11, go_sem]) rfl ⟨rfl, ?_⟩
  exact Below.alloc (Below.refl _ _) (Nat.le_refl _) _

set_option maxHeartbeats 400000 in
theorem refNumbersFault_any (xs : List Int) (b o cap : Nat) (w : World) (hl : xs.length ≤ 1000000000) (hb : b < w.heap.size)
    (hc : ∀ j, j < xs.length → w.cell? ⟨b, o + j, none⟩ = some (.int .i64 (xs.getD j 0))) :
    Calls Tryz.prog 10 #[.slice (some ⟨b, o, none⟩) xs.length cap] w fun e w' => e = .returned (.agg #[.int .i64 (nf 0 xs).1, .int .i64 (nf 0 xs).2]) ∧ Below w.heap.size w w' := by
  go_enter Tryz.func10, Tryz.ntmps10
  go_wp2
  go_loop [3] (fun i => ∃ k : Nat, k ≤ xs.length ∧ i = .int .i64 k ∧ ∀ j, j < k → numB (xs.getD j 0) = true) (fun i => xs.length - (intOf i).toNat)
  case atStart => exact ⟨0, Nat.zero_le _, rfl, fun j hj => absurd hj (Nat.not_lt_zero _)⟩
  case round =>
    obtain ⟨k, hk, rfl, hok⟩ := hrel
    have HOK : Hid (∀ j, j < k → numB (xs.getD j 0) = true) := hok
    have HC := hc
    clear hok hc
    by_cases hlt : k < xs.length
    · have hck := HC k hlt
      obtain ⟨x, hx⟩ : ∃ x, x = xs.getD k 0 := ⟨_, rfl⟩
      rw [← hx] at hck
      have HX : Hid (x = xs.getD k 0) := hx
      clear HC hx
      cases hn : numB x
      · go_wp2_with (go_at_call 59; refine (number_any _ _).mono ?_; rintro e w' ⟨rfl, rfl⟩)
        refine (F_any 3 k _).mono ?_
        rintro e w1 ⟨rfl, hb1⟩
        have hz : w.heap.size < w1.heap.size := by have := hb1.size; simp at this; omega
        have q0 : w1.cell? ⟨w.heap.size, 0, none⟩ = some (.int .i64 0) := cell_later hb1 (by simp)
        have q1 : w1.cell? ⟨w.heap.size, 1, none⟩ = some (.int .i64 0) := cell_later hb1 (by simp)
        have q2 : w1.frozen? ⟨w.heap.size, 0, none⟩ = false := (hb1.frozen (p := ⟨w.heap.size, 0, none⟩) (by simp)).trans (by simp)
        have q3 : w1.frozen? ⟨w.heap.size, 1, none⟩ = false := (hb1.frozen (p := ⟨w.heap.size, 1, none⟩) (by simp)).trans (by simp)
        go_wp2
        refine bodyPost_ret (v := .agg #[.int .i64 3, .int .i64 k]) (by simp [results, Tryz.results10, go_sem, q0, q1, hz]) rfl ⟨?_, ?_⟩
        · rw [nf_hit xs k hlt HOK.out (by rw [← HX.out]; exact hn)]
        · refine Below.setCell (Below.setCell (Below.trans (Below.alloc (Below.refl _ _) ?_ _) (hb1.mono ?_)) ?_ _) ?_ _ <;> simp
      · go_wp2_with (go_at_call 59; refine (number_any _ _).mono ?_; rintro e w' ⟨rfl, rfl⟩)
        go_round
        case rel =>
          refine ⟨k + 1, by omega, by go_num, fun j hj => ?_⟩
          by_cases hjk : j = k
          · subst hjk; rw [← HX.out]; exact hn
          · exact HOK.out j (by omega)
        case measure => simp [intOf]; omega
    · go_wp2
      refine bodyPost_ret (v := .agg #[.int .i64 0, .int .i64 0]) (by simp [results, Tryz.results10, go_sem]) rfl ⟨?_, ?_⟩
      · rw [nf_none xs (fun j hj => HOK.out j (by omega))]
      · exact Below.alloc (Below.refl _ _) (Nat.le_refl _) _

theorem refSize_any (n : Int) (w : World) (h1 : -9223372036854775807 ≤ n) (h2 : n ≤ 9223372036854775807) :
    Calls Tryz.prog 86 #[.int .i64 n] w fun e w' => e = .returned (.int .i64 (n.natAbs : Int)) ∧ w' = w := by
  by_cases h : n < 0
  all_goals
    go_enter Tryz.func86, Tryz.ntmps86
    go_wp2
    go_ret
    exact ⟨ret_int (by omega), rfl⟩

theorem gcd_sub_left (p q : Nat) : Nat.gcd (p % q) q = Nat.gcd p q := by
  rw [Nat.gcd_comm p q, Nat.gcd_rec q p]
theorem gcd_sub_right (p q : Nat) : Nat.gcd p (q % p) = Nat.gcd p q := by
  rw [Nat.gcd_rec p q, Nat.gcd_comm]

set_option maxHeartbeats 1000000 in
theorem refGcd_nat (a b : Nat) (w : World) (ha : a ≤ 1000000000000000000) (hb : b ≤ 1000000000000000000) (x y : Int) (hx : x.natAbs = a) (hy : y.natAbs = b) :
    Calls Tryz.prog 14 #[.int .i64 x, .int .i64 y] w fun e w' => e = .returned (.int .i64 (Int.gcd x y : Int)) ∧ w' = w := by
  have HG : Hid (Int.gcd x y = Nat.gcd a b) := by unfold Int.gcd; rw [hx, hy]; rfl
  rw [HG.out]
  have hx' : (x < 0 → -x = (a : Int)) ∧ (0 ≤ x → x = (a : Int)) := by omega
  have hy' : (y < 0 → -y = (b : Int)) ∧ (0 ≤ y → y = (b : Int)) := by omega
  have HX : Hid ((x < 0 → -x = (a : Int)) ∧ (0 ≤ x → x = (a : Int))) := hx'
  have HY : Hid ((y < 0 → -y = (b : Int)) ∧ (0 ≤ y → y = (b : Int))) := hy'
  have bx : -1000000000000000000 ≤ x ∧ x ≤ 1000000000000000000 := by omega
  have by' : -1000000000000000000 ≤ y ∧ y ≤ 1000000000000000000 := by omega
  clear hx hy hx' hy' HG
  by_cases sx : x < 0 <;> by_cases sy : y < 0
  all_goals
    go_enter Tryz.func14, Tryz.ntmps14
    go_wp2
    go_loop [0, 1] (fun s t => ∃ p q : Nat, s = .int .i64 p ∧ t = .int .i64 q ∧ p ≤ 1000000000000000000 ∧ q ≤ 1000000000000000000 ∧ Nat.gcd p q = Nat.gcd a b) (fun s t => (intOf s).toNat + (intOf t).toNat)
    case atStart =>
      refine ⟨a, b, ?_, ?_, ha, hb, rfl⟩
      · first | rw [HX.out.1 sx] | rw [HX.out.2 (by omega)]
      · first | rw [HY.out.1 sy] | rw [HY.out.2 (by omega)]
    case round =>
      obtain ⟨p, q, rfl, rfl, hp, hq, hg⟩ := hrel
      have H1 : Hid (Nat.gcd p q = Nat.gcd a b) := hg
      clear hg HX HY
      by_cases c1 : 0 < p
      · by_cases c2 : 0 < q
        · by_cases c3 : q < p
          · have hm : p % q < q := Nat.mod_lt _ c2
            have e := gcd_sub_left p q
            have E : Hid (Nat.gcd (p % q) q = Nat.gcd p q) := e
            clear e
            go_wp2
            go_round
            case rel => exact ⟨p % q, q, by go_num, rfl, by omega, hq, E.out.trans H1.out⟩
            case measure => simp [intOf]; omega
          · have hm : q % p < p := Nat.mod_lt _ c1
            have e := gcd_sub_right p q
            have E : Hid (Nat.gcd p (q % p) = Nat.gcd p q) := e
            clear e
            go_wp2
            go_round
            case rel => exact ⟨p, q % p, rfl, by go_num, hp, by omega, E.out.trans H1.out⟩
            case measure => simp [intOf]; omega
        · obtain rfl : q = 0 := by omega
          go_wp2
          go_ret
          exact ⟨ret_int (by rw [← H1.out]; simp), rfl⟩
      · obtain rfl : p = 0 := by omega
        go_wp2
        go_ret
        exact ⟨ret_int (by rw [← H1.out]; simp), rfl⟩

end Go.Proofs.YtfbgblidlabipaaGreatDoor
end

section
/- Plain facts: joining two remainders, and a list of them. Nothing of the program. -/
set_option linter.unusedSimpArgs false
set_option linter.unusedVariables false
set_option maxRecDepth 100000
namespace Go.Proofs.YtfbgblidlabipaaGreatDoor.MathC

/-- One joining: steps of m that fill the gap. -/
theorem join_step (r m mk u v g gap q : Int) (st : Int) (more : Int) (hg : g ≠ 0) (hmk : mk = g * more) (hm : ∃ x, m = g * x) (hl : u * m + v * mk = g) (hgap : gap = g * q) (hst : ∃ k, st = q * u + k * more) :
    ∃ z, st * m - gap = mk * z := by
  obtain ⟨x, rfl⟩ := hm
  obtain ⟨k, rfl⟩ := hst
  subst hmk hgap
  refine ⟨k * x - q * v, ?_⟩
  have e1 : (q * u + k * more) * (g * x) = q * (u * (g * x)) + (g * more) * (k * x) := by
    rw [Int.add_mul]; congr 1 <;> simp only [Int.mul_assoc, Int.mul_comm, Int.mul_left_comm]
  have e2 : u * (g * x) = g - v * (g * more) := by omega
  rw [e1, e2, Int.mul_sub, Int.mul_sub]
  have e3 : q * (v * (g * more)) = g * more * (q * v) := by simp only [Int.mul_assoc, Int.mul_comm, Int.mul_left_comm]
  have e4 : q * g = g * q := Int.mul_comm ..
  omega

/-- The least number that the first k of ms divide. -/
def jl (ms : List Int) : Nat → Nat
  | 0 => 1
  | k + 1 => Nat.lcm (jl ms k) (ms.getD k 0).toNat

def K : Int := 1000000000000000000

/-- The state behind k places. -/
structure JSt (rs ms : List Int) (k : Nat) (r m : Nat) : Prop where
  hi : r < m
  cap : (m : Int) ≤ 1000000000000000000
  ok : ∀ j, j < k → -1000000000000000000 ≤ rs.getD j 0 ∧ rs.getD j 0 ≤ 1000000000000000000 ∧ 1 ≤ ms.getD j 0 ∧ ms.getD j 0 ≤ 1000000000000000000
  lcm : m = jl ms k
  cong : ∀ j, j < k → ms.getD j 0 ∣ (r : Int) - rs.getD j 0

theorem jst_start (rs ms : List Int) : JSt rs ms 0 0 1 := ⟨by omega, by omega, fun j hj => absurd hj (Nat.not_lt_zero _), rfl, fun j hj => absurd hj (Nat.not_lt_zero _)⟩

theorem jl_dvd (ms : List Int) (d : Int) : ∀ k, (∀ j, j < k → 1 ≤ ms.getD j 0 ∧ ms.getD j 0 ∣ d) → (jl ms k : Int) ∣ d := by
  intro k
  induction k with
  | zero => intro _; exact ⟨d, by simp [jl]⟩
  | succ n ih =>
    intro h
    have h1 := ih (fun j hj => h j (by omega))
    obtain ⟨h2, h3⟩ := h n (by omega)
    have e : ((ms.getD n 0).toNat : Int) = ms.getD n 0 := by omega
    have h4 : ((ms.getD n 0).toNat : Int) ∣ d := by rw [e]; exact h3
    rw [Int.ofNat_dvd_left] at h1 h4 ⊢
    exact Nat.lcm_dvd h1 h4

theorem jl_mem (ms : List Int) (j : Nat) : ∀ k, j < k → 1 ≤ ms.getD j 0 → ms.getD j 0 ∣ (jl ms k : Int) := by
  intro k
  induction k with
  | zero => intro h; exact absurd h (Nat.not_lt_zero _)
  | succ q ih =>
    intro h h1
    by_cases e : j = q
    · subst e
      have e2 : ((ms.getD j 0).toNat : Int) = ms.getD j 0 := by omega
      have : ((ms.getD j 0).toNat : Int) ∣ ((Nat.lcm (jl ms j) (ms.getD j 0).toNat : Nat) : Int) := by
        rw [Int.ofNat_dvd_left]; exact Nat.dvd_lcm_right _ _
      rw [e2] at this; exact this
    · refine Int.dvd_trans (ih (by omega) h1) ?_
      rw [Int.ofNat_dvd_left]; exact Nat.dvd_lcm_left _ _

theorem jst_unique {rs ms : List Int} {k r m r' m' : Nat} (h : JSt rs ms k r m) (h' : JSt rs ms k r' m') : r = r' ∧ m = m' := by
  have hm : m = m' := h.lcm.trans h'.lcm.symm
  subst hm
  refine ⟨?_, rfl⟩
  have hd : (m : Int) ∣ (r : Int) - (r' : Int) := by
    rw [h.lcm]
    refine jl_dvd ms _ k fun j hj => ⟨(h.ok j hj).2.2.1, ?_⟩
    have h1 := h.cong j hj
    have h2 := h'.cong j hj
    have : (r : Int) - (r' : Int) = ((r : Int) - rs.getD j 0) - ((r' : Int) - rs.getD j 0) := by omega
    rw [this]; exact Int.dvd_sub h1 h2
  obtain ⟨z, hz⟩ := hd
  have h1 := h.hi
  have h2 := h'.hi
  have hz0 : z = 0 := by
    rcases Int.lt_trichotomy z 0 with c | c | c
    · have : (m : Int) * z ≤ (m : Int) * (-1) := Int.mul_le_mul_of_nonneg_left (by omega) (by omega)
      omega
    · exact c
    · have : (m : Int) * 1 ≤ (m : Int) * z := Int.mul_le_mul_of_nonneg_left (by omega) (by omega)
      omega
  subst hz0
  omega

theorem lcm_mul (a b : Nat) : Nat.lcm a b = a * (b / Nat.gcd a b) := by
  unfold Nat.lcm
  exact Nat.mul_div_assoc a (Nat.gcd_dvd_right a b)

theorem jst_next {rs ms : List Int} {k r m R : Nat} (h : JSt rs ms k r m) (n : Nat) (hn : ms.getD k 0 = (n : Int)) (h1 : 1 ≤ n) (h2 : (n : Int) ≤ 1000000000000000000) (h3 : -1000000000000000000 ≤ rs.getD k 0) (h4 : rs.getD k 0 ≤ 1000000000000000000)
    (hcap : ((m * (n / Nat.gcd m n) : Nat) : Int) ≤ 1000000000000000000) (hR : R < m * (n / Nat.gcd m n)) (d1 : (m : Int) ∣ (R : Int) - (r : Int)) (d2 : (n : Int) ∣ (R : Int) - rs.getD k 0) :
    JSt rs ms (k + 1) R (m * (n / Nat.gcd m n)) := by
  refine ⟨hR, hcap, fun j hj => ?_, ?_, fun j hj => ?_⟩
  · by_cases e : j = k
    · subst e; rw [hn]; omega
    · exact h.ok j (by omega)
  · show _ = Nat.lcm (jl ms k) (ms.getD k 0).toNat
    rw [hn, Int.toNat_natCast, ← h.lcm, lcm_mul]
  · by_cases e : j = k
    · subst e; rw [hn]; exact d2
    · have h5 := h.cong j (by omega)
      have h6 : ms.getD j 0 ∣ (m : Int) := by
        rw [h.lcm]
        exact jl_mem ms j k (by omega) (h.ok j (by omega)).2.2.1
      have : (R : Int) - rs.getD j 0 = ((R : Int) - (r : Int)) + ((r : Int) - rs.getD j 0) := by omega
      rw [this]
      exact Int.dvd_add (Int.dvd_trans h6 d1) h5

theorem bezout_nat : ∀ (n m : Nat), ∃ u v : Int, u * (m : Int) + v * (n : Int) = (Nat.gcd m n : Int) := by
  intro n
  induction n using Nat.strongRecOn with
  | ind n ih =>
    intro m
    by_cases h0 : n = 0
    · subst h0; exact ⟨1, 0, by simp⟩
    · obtain ⟨u, v, h⟩ := ih (m % n) (Nat.mod_lt _ (by omega)) n
      refine ⟨v, u - v * ((m / n : Nat) : Int), ?_⟩
      have e : Nat.gcd n (m % n) = Nat.gcd m n := by rw [Nat.gcd_comm n, ← Nat.gcd_rec, Nat.gcd_comm]
      rw [e] at h
      have e2 : (m : Int) = (n : Int) * ((m / n : Nat) : Int) + ((m % n : Nat) : Int) := by rw [← Int.natCast_mul, ← Int.natCast_add, Nat.div_add_mod]
      rw [← h, Int.sub_mul]
      have e3 : v * (m : Int) = v * ((m / n : Nat) : Int) * (n : Int) + v * ((m % n : Nat) : Int) := by
        rw [Int.mul_assoc, ← Int.mul_add, Int.mul_comm ((m / n : Nat) : Int), ← e2]
      omega

theorem crt_exists (r m n : Nat) (a : Int) (hr : r < m) (h1 : 1 ≤ n) (hd : (Nat.gcd m n : Int) ∣ a - (r : Int)) :
    ∃ R : Nat, R < m * (n / Nat.gcd m n) ∧ (m : Int) ∣ (R : Int) - (r : Int) ∧ (n : Int) ∣ (R : Int) - a := by
  obtain ⟨u, v, hl⟩ := bezout_nat n m
  have hg0 : 0 < Nat.gcd m n := Nat.gcd_pos_of_pos_left _ (by omega)
  obtain ⟨xm, hxm⟩ := Nat.gcd_dvd_left m n
  obtain ⟨mo, hmo⟩ := Nat.gcd_dvd_right m n
  obtain ⟨q, hq⟩ := hd
  generalize hg : Nat.gcd m n = g at *
  have e : n / g = mo := by rw [hmo]; exact Nat.mul_div_cancel_left _ hg0
  rw [e]
  have hmo0 : 0 < mo := by
    rcases Nat.eq_zero_or_pos mo with c | c
    · subst c; omega
    · exact c
  obtain ⟨st, hst⟩ := Int.eq_ofNat_of_zero_le (Int.emod_nonneg (q * u) (show (mo : Int) ≠ 0 by omega))
  have hlt : st < mo := by have := Int.emod_lt_of_pos (q * u) (show 0 < (mo : Int) by omega); omega
  refine ⟨r + st * m, ?_, ⟨(st : Int), by simp [Int.mul_comm]; omega⟩, ?_⟩
  · have : (st + 1) * m ≤ mo * m := Nat.mul_le_mul_right _ hlt
    rw [Nat.add_mul, Nat.mul_comm mo] at this; omega
  · obtain ⟨z, hz⟩ := join_step (r : Int) (m : Int) (n : Int) u v (g : Int) (a - (r : Int)) q (st : Int) (mo : Int) (by omega) (by rw [hmo]; simp) ⟨(xm : Int), by rw [hxm]; simp⟩ hl hq
      ⟨-(q * u / (mo : Int)), by rw [← hst, Int.emod_def, Int.neg_mul, Int.mul_comm (mo : Int)]; omega⟩
    exact ⟨z, by rw [← hz]; simp; omega⟩

end Go.Proofs.YtfbgblidlabipaaGreatDoor.MathC
end

section
/- Contracts of package whole's left and joinOne. -/
set_option linter.unusedSimpArgs false
set_option linter.unusedVariables false
set_option maxRecDepth 100000
namespace Go.Proofs.YtfbgblidlabipaaGreatDoor
open Go.RowKit

theorem left_any (a : Int) (m : Nat) (w : World) (ha : a.natAbs ≤ 4000000000000000000) (h0 : 0 < m) (hm : (m : Int) ≤ 1000000000000000000) :
    Calls Tryz.prog 175 #[.int .i64 a, .int .i64 m] w fun e w' => e = .returned (.int .i64 (a % (m : Int))) ∧ w' = w := by
  have hb : (a.tmod (m : Int)).natAbs < m := by rw [Int.natAbs_tmod]; exact Nat.mod_lt _ h0
  have t1 : ((m : Int) == 0) = false := beq_eq_false_iff_ne.2 (by omega)
  by_cases h : 0 ≤ a
  · have e : a.tmod (m : Int) = a % (m : Int) := Int.tmod_eq_emod_of_nonneg h
    have h1 : 0 ≤ a % (m : Int) := Int.emod_nonneg _ (by omega)
    have h2 : a % (m : Int) < (m : Int) := Int.emod_lt_of_pos _ (by omega)
    clear hb e
    go_enter Tryz.func175, Tryz.ntmps175
    go_wp2
    go_ret
    exact ⟨rfl, rfl⟩
  · by_cases hz : a.tmod (m : Int) < 0
    · have HE : Hid (a.tmod (m : Int) + (m : Int) = a % (m : Int)) := by
        show _ = _
        have e1 := Int.tmod_eq_emod (a := a) (b := (m : Int))
        rw [e1] at hz ⊢
        split at hz
        · have := Int.emod_nonneg a (show (m : Int) ≠ 0 by omega); omega
        · rename_i hc; rw [if_neg hc]; simp
      go_enter Tryz.func175, Tryz.ntmps175
      go_wp2
      go_ret
      exact ⟨ret_int HE.out, rfl⟩
    · have HE : Hid (a.tmod (m : Int) = a % (m : Int)) := by
        show _ = _
        have e1 := Int.tmod_eq_emod (a := a) (b := (m : Int))
        rw [e1] at hz ⊢
        split at hz
        · rename_i hc; rw [if_pos hc]; omega
        · have := Int.emod_lt_of_pos a (show 0 < (m : Int) by omega); simp at hz; omega
      go_enter Tryz.func175, Tryz.ntmps175
      go_wp2
      go_ret
      exact ⟨ret_int HE.out, rfl⟩

/-- What is told where a place falls: its code. -/
theorem joinOne_range (r m : Nat) (a b : Int) (w : World) (h : numB a = false ∨ b < 1 ∨ 1000000000000000000 < b) :
    Calls Tryz.prog 311 #[.int .i64 r, .int .i64 m, .int .i64 a, .int .i64 b] w fun e w' => e = .returned (.tuple #[.int .i64 0, .int .i64 0, .int .i64 3]) ∧ w' = w := by
  cases hn : numB a
  · go_enter Tryz.func311, Tryz.ntmps311
    go_wp2_with (go_at_call 120; refine (isNumber_any _ _).mono ?_; rintro e w' ⟨rfl, rfl⟩)
    go_ret3
    exact ⟨rfl, rfl⟩
  · by_cases h1 : b < 1
    · go_enter Tryz.func311, Tryz.ntmps311
      go_wp2_with (go_at_call 120; refine (isNumber_any _ _).mono ?_; rintro e w' ⟨rfl, rfl⟩)
      go_ret3
      exact ⟨rfl, rfl⟩
    · have h2 : 1000000000000000000 < b := by rw [hn] at h; rcases h with h | h | h <;> first | cases h | omega
      clear h
      go_enter Tryz.func311, Tryz.ntmps311
      go_wp2_with (go_at_call 120; refine (isNumber_any _ _).mono ?_; rintro e w' ⟨rfl, rfl⟩)
      go_ret3
      exact ⟨rfl, rfl⟩

theorem gcd_nat (m n : Nat) : Int.gcd (m : Int) (n : Int) = Nat.gcd m n := by simp [Int.gcd]

theorem join_fill {r m n uu mo l st g : Nat} {v q a : Int} (hnm : n = g * mo) (hgm : g ∣ m) (hl : (uu : Int) * (m : Int) + v * (n : Int) = (g : Int)) (hq : a - (r : Int) = (g : Int) * q) (hlq : q % (mo : Int) = (l : Int)) (hst : st = l * uu % mo) (hg : g ≠ 0) :
    (n : Int) ∣ (((r + st * m : Nat) : Int)) - a := by
  obtain ⟨xm, hxm⟩ := hgm
  obtain ⟨z, hz⟩ := MathC.join_step (r : Int) (m : Int) (n : Int) (uu : Int) v (g : Int) (a - (r : Int)) q (st : Int) (mo : Int) (by omega)
    (by rw [hnm]; simp) ⟨(xm : Int), by rw [hxm]; simp⟩ hl hq
    (by
      have e1 : (st : Int) = ((l : Int) * (uu : Int)) % (mo : Int) := by rw [hst]; simp
      have e2 : (l : Int) * (uu : Int) = q * (uu : Int) - (mo : Int) * (q / (mo : Int)) * (uu : Int) := by rw [← hlq, Int.emod_def, Int.sub_mul]
      refine ⟨-(q / (mo : Int) * (uu : Int)) - ((l : Int) * (uu : Int)) / (mo : Int), ?_⟩
      rw [e1, Int.emod_def, Int.sub_mul, Int.neg_mul]
      have e3 : (mo : Int) * (q / (mo : Int)) * (uu : Int) = q / (mo : Int) * (uu : Int) * (mo : Int) := by simp only [Int.mul_assoc, Int.mul_comm, Int.mul_left_comm]
      have e4 : (mo : Int) * ((l : Int) * (uu : Int) / (mo : Int)) = (l : Int) * (uu : Int) / (mo : Int) * (mo : Int) := Int.mul_comm ..
      omega)
  refine ⟨z, ?_⟩
  rw [← hz]; simp; omega

set_option maxHeartbeats 1000000 in
/-- A place whose numbers are in their range. -/
theorem joinOne_any (r m n : Nat) (a : Int) (w : World) (hr : r < m) (hm : (m : Int) ≤ 1000000000000000000) (h1 : 1 ≤ n) (hn : (n : Int) ≤ 1000000000000000000) (ha : numB a = true) :
    Calls Tryz.prog 311 #[.int .i64 r, .int .i64 m, .int .i64 a, .int .i64 n] w fun e w' => (∃ q, w' = w.drewN q) ∧
      ((¬ (Nat.gcd m n : Int) ∣ a - (r : Int) ∧ e = .returned (.tuple #[.int .i64 0, .int .i64 0, .int .i64 5])) ∨
       ((Nat.gcd m n : Int) ∣ a - (r : Int) ∧ 1000000000000000000 < m * (n / Nat.gcd m n) ∧ e = .returned (.tuple #[.int .i64 0, .int .i64 0, .int .i64 9])) ∨
       ((Nat.gcd m n : Int) ∣ a - (r : Int) ∧ m * (n / Nat.gcd m n) ≤ 1000000000000000000 ∧ ∃ R : Nat, e = .returned (.tuple #[.int .i64 R, .int .i64 ((m * (n / Nat.gcd m n) : Nat) : Int), .int .i64 0]) ∧ R < m * (n / Nat.gcd m n) ∧ (m : Int) ∣ (R : Int) - (r : Int) ∧ (n : Int) ∣ (R : Int) - a)) := by
  obtain ⟨a1, a2⟩ := numB_true ha
  have hg0 : 0 < Nat.gcd m n := Nat.gcd_pos_of_pos_left _ (by omega)
  have hgn : Nat.gcd m n ∣ n := Nat.gcd_dvd_right m n
  have hgm : Nat.gcd m n ∣ m := Nat.gcd_dvd_left m n
  have hgle : Nat.gcd m n ≤ n := Nat.le_of_dvd (by omega) hgn
  go_enter Tryz.func311, Tryz.ntmps311
  go_wp2_with (go_at_call 120; refine (isNumber_any _ _).mono ?_; rintro e w' ⟨rfl, rfl⟩)
  refine (bezout_any (m : Int) (n : Int) _ (by omega) (by omega)).mono ?_
  rw [gcd_nat]
  rintro e w1 ⟨u, v, rfl, hbz, hw⟩
  have hlin := hbz.lin
  have hlow := hbz.low (by omega)
  have hhigh := hbz.high (by omega)
  rw [gcd_nat] at hlin hhigh
  rw [Int.natAbs_natCast] at hhigh
  have HW : Hid (∃ q, w1 = w'.drewN q) := hw
  have HL : Hid (u * (m : Int) + v * (n : Int) = (Nat.gcd m n : Int)) := hlin
  clear hbz hlin hw
  obtain ⟨uu, rfl⟩ := Int.eq_ofNat_of_zero_le hlow
  obtain ⟨mo, hmo⟩ : ∃ mo, mo = n / Nat.gcd m n := ⟨_, rfl⟩
  have hnm : n = Nat.gcd m n * mo := by rw [hmo, Nat.mul_div_cancel' hgn]
  have hmo0 : 0 < mo := by
    rcases Nat.eq_zero_or_pos mo with e | e
    · rw [e, Nat.mul_zero] at hnm; omega
    · exact e
  have hmon : mo ≤ n := by rw [hmo]; exact Nat.div_le_self ..
  rw [← hmo] at hhigh
  have huu : uu < mo := by omega
  have emo : (n : Int) / (Nat.gcd m n : Int) = (mo : Int) := by rw [hmo, Int.natCast_ediv]
  have HMO : Hid (mo = n / Nat.gcd m n) := hmo
  have HNM : Hid (n = Nat.gcd m n * mo) := hnm
  clear hmo hnm hhigh hlow hgle
  by_cases hd : (Nat.gcd m n : Int) ∣ a - (r : Int)
  · obtain ⟨q, hq⟩ := hd
    have HQ : Hid (a - (r : Int) = (Nat.gcd m n : Int) * q) := hq
    have eq1 : (a - (r : Int)).tdiv (Nat.gcd m n : Int) = q := by rw [hq]; exact Int.mul_tdiv_cancel_left _ (by omega)
    have hqb : -2000000000000000000 ≤ q ∧ q ≤ 2000000000000000000 := by
      have h1 : q.natAbs ≤ (a - (r : Int)).natAbs := by
        rw [hq, Int.natAbs_mul]; exact Nat.le_mul_of_pos_left _ (by omega)
      omega
    have t5 : ((a - (r : Int)).tmod (Nat.gcd m n : Int) != 0) = false := by rw [hq, Int.mul_tmod_right]; rfl
    clear hq
    by_cases hk : 1000000000000000000 < m * mo
    · have t6 : decide (1000000000000000000 / (mo : Int) < (m : Int)) = true := by
        rw [decide_eq_true_iff]; rw [Int.ediv_lt_iff_lt_mul (by omega), ← Int.natCast_mul]; omega
      have HF : Hid ((Nat.gcd m n : Int) ∣ a - (r : Int) ∧ 1000000000000000000 < m * (n / Nat.gcd m n)) := ⟨⟨q, HQ.out⟩, by rw [← HMO.out]; exact hk⟩
      clear hk
      go_wp2
      go_ret3
      obtain ⟨k, rfl⟩ := HW.out
      exact ⟨⟨k, rfl⟩, Or.inr (Or.inl ⟨HF.out.1, HF.out.2, rfl⟩)⟩
    · have t6 : decide (1000000000000000000 / (mo : Int) < (m : Int)) = false := by
        rw [decide_eq_false_iff_not, Int.ediv_lt_iff_lt_mul (by omega), ← Int.natCast_mul]; omega
      have hmm : (m : Int) * (mo : Int) ≤ 1000000000000000000 ∧ 0 ≤ (m : Int) * (mo : Int) := by rw [← Int.natCast_mul]; omega
      have HK : Hid (m * mo ≤ 1000000000000000000) := by show _ ≤ _; omega
      clear hk
      obtain ⟨l, hl⟩ := Int.eq_ofNat_of_zero_le (Int.emod_nonneg q (show (mo : Int) ≠ 0 by omega))
      have hlm : l < mo := by have := Int.emod_lt_of_pos q (show 0 < (mo : Int) by omega); omega
      have HLQ : Hid (q % (mo : Int) = (l : Int)) := hl
      clear hl
      go_wp2_with fail
      refine (left_any q mo _ (by omega) hmo0 (by omega)).mono ?_
      rw [HLQ.out]
      rintro e w2 ⟨rfl, rfl⟩
      go_wp2_with fail
      refine (productLeft_any l uu mo _ hlm huu (by omega)).mono ?_
      have hst : l * uu % mo < mo := Nat.mod_lt _ hmo0
      obtain ⟨st, gst⟩ : ∃ st, st = l * uu % mo := ⟨_, rfl⟩
      rw [← gst] at hst ⊢
      have HST : Hid (st = l * uu % mo) := gst
      clear gst
      rintro e w3 ⟨rfl, hw3⟩
      have HW3 : Hid (∃ k, w3 = w2.drewN k) := hw3
      clear hw3
      have hsm : st * m + m ≤ m * mo := by
        have : (st + 1) * m ≤ mo * m := Nat.mul_le_mul_right _ hst
        rw [Nat.add_mul, Nat.mul_comm mo] at this; omega
      have hsm' : 0 ≤ (st : Int) * (m : Int) ∧ (st : Int) * (m : Int) + (m : Int) ≤ (m : Int) * (mo : Int) := by
        rw [← Int.natCast_mul, ← Int.natCast_mul]; omega
      have HFD : Hid ((n : Int) ∣ (((r + st * m : Nat) : Int)) - a) := join_fill HNM.out hgm HL.out HQ.out HLQ.out HST.out (by omega)
      clear hgm hgn
      go_wp2
      go_ret3
      obtain ⟨k1, rfl⟩ := HW.out
      obtain ⟨k2, rfl⟩ := HW3.out
      refine ⟨⟨k1 + k2, World.drewN_drewN ..⟩, Or.inr (Or.inr ⟨⟨q, HQ.out⟩, by rw [← HMO.out]; exact HK.out, r + st * m, ?_, ?_, ?_, HFD.out⟩)⟩
      · rw [← HMO.out]; exact ret3 (by simp) (by simp) rfl
      · rw [← HMO.out]; omega
      · exact ⟨(st : Int), by simp; rw [Int.mul_comm]; omega⟩
  · have t5 : ((a - (r : Int)).tmod (Nat.gcd m n : Int) != 0) = true := by
      rw [bne_iff_ne]; intro e; exact hd (Int.dvd_of_tmod_eq_zero e)
    have HF : Hid (¬ (Nat.gcd m n : Int) ∣ a - (r : Int)) := hd
    clear hd
    go_wp2
    go_ret3
    obtain ⟨k, rfl⟩ := HW.out
    exact ⟨⟨k, rfl⟩, Or.inl ⟨HF.out, rfl⟩⟩

end Go.Proofs.YtfbgblidlabipaaGreatDoor
end

section
/- The contract of modulo.Power: a power by a number, bit by bit. -/
set_option linter.unusedSimpArgs false
set_option linter.unusedVariables false
set_option maxRecDepth 100000
namespace Go.Proofs.YtfbgblidlabipaaGreatDoor
open Go.RowKit

/-- One more bit of the exponent. -/
theorem mod_pow_succ (n i : Nat) : n % 2 ^ (i + 1) = n % 2 ^ i + 2 ^ i * (n / 2 ^ i % 2) := by
  rw [Nat.pow_succ, Nat.mod_mul]

theorem pow_sq (A i m : Nat) : (A ^ 2 ^ i % m) * (A ^ 2 ^ i % m) % m = A ^ 2 ^ (i + 1) % m := by
  rw [← Nat.mul_mod, ← Nat.pow_add, Nat.pow_succ]; congr 2; omega

theorem pow_one_bit (A n i m : Nat) (h : n / 2 ^ i % 2 = 1) : (A ^ (n % 2 ^ i) % m) * (A ^ 2 ^ i % m) % m = A ^ (n % 2 ^ (i + 1)) % m := by
  rw [← Nat.mul_mod, ← Nat.pow_add, mod_pow_succ, h, Nat.mul_one]
theorem pow_no_bit (A n i m : Nat) (h : n / 2 ^ i % 2 = 0) : A ^ (n % 2 ^ i) % m = A ^ (n % 2 ^ (i + 1)) % m := by
  rw [mod_pow_succ, h, Nat.mul_zero, Nat.add_zero]

theorem and_one_i64 (a : Nat) (ha : a < 9223372036854775808) : bits .and .i64 (a : Int) 1 = ((a % 2 : Nat) : Int) := by
  have h1 : (BitVec.ofInt 64 (a : Int)).toNat = a := by
    rw [BitVec.ofInt_natCast, BitVec.toNat_ofNat]; exact Nat.mod_eq_of_lt (by omega)
  have h2 : (BitVec.ofInt 64 (1 : Int)).toNat = 1 := by decide
  show IntKind.i64.wrap ((BitVec.ofInt 64 (a : Int) &&& BitVec.ofInt 64 (1 : Int)).toNat : Int) = _
  rw [BitVec.toNat_and, h1, h2, Nat.and_one_is_mod, IntKind.wrap_i64]
  omega

theorem bit_i64 (n i b : Nat) (hn : n < 9223372036854775808) (h : n / 2 ^ i % 2 = b) : bits .and .i64 ((n : Int) / 2 ^ i) 1 = (b : Int) := by
  have e : (n : Int) / 2 ^ i = ((n / 2 ^ i : Nat) : Int) := by simp
  rw [e, and_one_i64 _ (Nat.lt_of_le_of_lt (Nat.div_le_self ..) hn), h]

set_option maxHeartbeats 1000000 in
theorem modPower_any (a : Int) (n m : Nat) (w : World) (ha : a.natAbs ≤ 4000000000000000000) (h0 : 0 < m) (hm : m ≤ 1000000000000000000) (hn : n ≤ 1000000000000000000) :
    Calls Tryz.prog 284 #[.int .i64 a, .int .i64 n, .int .i64 m] w fun e w' => e = .returned (.int .i64 (((a % (m : Int)).toNat ^ n % m : Nat) : Int)) ∧ ∃ q, w' = w.drewN q := by
  obtain ⟨A, gA⟩ : ∃ A : Nat, A = (a % (m : Int)).toNat := ⟨_, rfl⟩
  have h1 : 0 ≤ a % (m : Int) := Int.emod_nonneg _ (by omega)
  have h2 : a % (m : Int) < (m : Int) := Int.emod_lt_of_pos _ (by omega)
  have HA : Hid (a % (m : Int) = (A : Int)) := by show _ = _; omega
  have hA : A < m := by omega
  rw [← gA]
  clear gA h1 h2
  have hbl := bl_spec n (by omega)
  have hL : Lib.bitLen n ≤ 64 := Lib.bitLen_le n 64 (by omega) (by omega)
  obtain ⟨L, gL⟩ : ∃ L, L = Lib.bitLen n := ⟨_, rfl⟩
  rw [← gL] at hbl hL
  have HL : Hid (n < 2 ^ L) := hbl.1
  have HLE : Hid (Lib.bitLen ((n : Int).toNat) = L) := by show _ = _; rw [gL]; rfl
  clear hbl gL
  go_enter Tryz.func284, Tryz.ntmps284
  go_wp2_with fail
  refine (left_any 1 m w (by omega) h0 (by omega)).mono ?_
  rintro e w1 ⟨rfl, rfl⟩
  obtain ⟨o, go⟩ : ∃ o, o = 1 % m := ⟨_, rfl⟩
  have e1 : (1 : Int) % (m : Int) = (o : Int) := by rw [go]; rfl
  rw [e1]
  have hom : o < m := by rw [go]; exact Nat.mod_lt _ h0
  have HO : Hid (o = 1 % m) := go
  clear e1 go
  go_wp2_with fail
  refine (left_any a m w1 ha h0 (by omega)).mono ?_
  rintro e w2 ⟨rfl, rfl⟩
  rw [HA.out]
  go_wp2_with fail
  refine (Len64_int _ _ (by omega) (by omega)).mono ?_
  rw [HLE.out]
  rintro e w3 ⟨rfl, rfl⟩
  go_wp2_with fail
  go_loopw [7, 8, 18] (fun av sv iv wx => ∃ i x y : Nat, i ≤ L ∧ iv = .int .i64 i ∧ av = .int .i64 x ∧ sv = .int .i64 y ∧ x < m ∧ y < m ∧ Hid (x = A ^ (n % 2 ^ i) % m ∧ y = A ^ 2 ^ i % m ∧ ∃ q, wx = w3.drewN q)) (fun _ _ iv _ => L - (intOf iv).toNat)
  case atStart => exact ⟨0, o, A, Nat.zero_le _, rfl, rfl, rfl, hom, hA, by rw [HO.out]; simp [Nat.mod_one], by simp [Nat.mod_eq_of_lt hA], 0, rfl⟩
  case round =>
    obtain ⟨i, x, y, hi, rfl, rfl, rfl, hx, hy, HR⟩ := hrel
    by_cases hlt : i < L
    · have hy2 : y * y % m < m := Nat.mod_lt _ h0
      obtain ⟨y2, gy⟩ : ∃ y2, y2 = y * y % m := ⟨_, rfl⟩
      have HY2 : Hid (y2 = A ^ 2 ^ (i + 1) % m) := by show _ = _; rw [gy, HR.out.2.1, pow_sq]
      have HYE : Hid (y * y % m = y2) := gy.symm
      rw [← gy] at hy2
      clear gy
      rcases Nat.mod_two_eq_zero_or_one (n / 2 ^ i) with hb | hb
      · have hbit := bit_i64 n i 0 (by omega) hb
        have HX2 : Hid (x = A ^ (n % 2 ^ (i + 1)) % m) := by show _ = _; rw [HR.out.1, pow_no_bit _ _ _ _ hb]
        clear hb
        go_wp2_with fail
        refine (productLeft_any y y m _ hy hy hm).mono ?_
        rw [HYE.out]
        rintro e w4 ⟨rfl, q4, rfl⟩
        go_wp2
        go_roundw
        case rel =>
          obtain ⟨q, hq⟩ := HR.out.2.2
          exact ⟨i + 1, x, y2, by omega, by go_num, rfl, rfl, hx, hy2, HX2.out, HY2.out, drewN_more ⟨q, hq⟩ _⟩
        case measure => simp [intOf]; omega
      · have hbit := bit_i64 n i 1 (by omega) hb
        have hx2 : x * y % m < m := Nat.mod_lt _ h0
        obtain ⟨x2, gx⟩ : ∃ x2, x2 = x * y % m := ⟨_, rfl⟩
        have HX2 : Hid (x2 = A ^ (n % 2 ^ (i + 1)) % m) := by show _ = _; rw [gx, HR.out.1, HR.out.2.1, pow_one_bit _ _ _ _ hb]
        have HXE : Hid (x * y % m = x2) := gx.symm
        rw [← gx] at hx2
        clear hb gx
        go_wp2_with fail
        refine (productLeft_any x y m _ hx hy hm).mono ?_
        rw [HXE.out]
        rintro e w4 ⟨rfl, q4, rfl⟩
        go_wp2_with fail
        refine (productLeft_any y y m _ hy hy hm).mono ?_
        rw [HYE.out]
        rintro e w5 ⟨rfl, q5, rfl⟩
        go_wp2
        go_roundw
        case rel =>
          obtain ⟨q, hq⟩ := HR.out.2.2
          exact ⟨i + 1, x2, y2, by omega, by go_num, rfl, rfl, hx2, hy2, HX2.out, HY2.out, drewN_more ⟨q, hq⟩ _⟩
        case measure => simp [intOf]; omega
    · obtain rfl : i = L := by omega
      have HE : Hid (x = A ^ n % m) := by
        have h := HR.out.1
        rw [Nat.mod_eq_of_lt HL.out] at h
        exact h
      obtain ⟨q, rfl⟩ := HR.out.2.2
      go_wp2
      go_ret
      rw [HE.out]
      exact ⟨rfl, q, rfl⟩

end Go.Proofs.YtfbgblidlabipaaGreatDoor
end

section
/- Contracts: Uint64, Int64, bit, length. -/
set_option linter.unusedSimpArgs false
set_option linter.unusedVariables false
set_option maxRecDepth 100000
namespace Go.Proofs.YtfbgblidlabipaaGreatDoor
open Go.RowKit

set_option maxHeartbeats 1000000 in
theorem Uint64_any (bx : Nat) (x : Int) (w : World) (hx : BigAt w bx x) (h : x.natAbs < 18446744073709551616) :
    Calls Tryz.prog 129 #[.pointer (some ⟨bx, 0, none⟩)] w fun e w' => e = .returned (.int .u64 (x.natAbs : Int)) ∧ ∃ q, w' = w.drewN q := by
  obtain ⟨xa, xl, xc, cx0, cx1, nx, _⟩ := hx.open
  obtain ⟨l, aa, g, cap, e, va, na, sa, pa, cell, _, lt⟩ := nx.open
  simp at e
  obtain ⟨rfl, rfl, rfl⟩ := e
  have h2 : l.length ≤ 2 := na.len (by rw [va, pw_two]; exact h)
  obtain ⟨X, gX⟩ : ∃ X, X = x.natAbs := ⟨_, rfl⟩
  rw [← gX] at va h ⊢
  clear hx nx lt na gX cx0
  rcases short_list l h2 with rfl | ⟨a, rfl⟩ | ⟨a, b, rfl⟩
  · have hv : X = 0 := by simpa [val] using va.symm
    subst hv
    clear va h cell sa pa h2
    go_enter Tryz.func129, Tryz.ntmps129
    go_wp2
    go_ret
    exact ⟨rfl, 0, rfl⟩
  · have hv : X = a := by simpa [val] using va.symm
    subst hv
    have c0 := cell 0 (by simp)
    simp at c0
    obtain rfl := pa (by simp)
    have s0 := sa X (by simp)
    clear va h cell sa pa h2
    go_enter Tryz.func129, Tryz.ntmps129
    go_wp2
    go_ret
    exact ⟨rfl, 0, rfl⟩
  · have hv : X = a + 4294967296 * b := by simpa [val] using va.symm
    have c0 := cell 0 (by simp)
    have c1 := cell 1 (by simp)
    simp at c0 c1
    obtain rfl := pa (by simp)
    have s0 := sa a (by simp)
    have s1 := sa b (by simp)
    have eo := or_low a b s0 s1
    rw [← hv] at eo
    clear va h hv cell sa pa h2
    go_enter Tryz.func129, Tryz.ntmps129
    go_wp2
    first
      | (go_ret; exact ⟨rfl, 0, rfl⟩)
      | (go_quiet (fail)
         go_wp2
         go_ret
         exact ⟨rfl, _, rfl⟩)

set_option maxHeartbeats 1000000 in
theorem Int64_any (bx : Nat) (x : Int) (w : World) (hx : BigAt w bx x) (h : x.natAbs < 9223372036854775808) :
    Calls Tryz.prog 67 #[.pointer (some ⟨bx, 0, none⟩)] w fun e w' => e = .returned (.int .i64 x) ∧ ∃ q, w' = w.drewN q := by
  obtain ⟨xa, xl, xc, cx0, cx1, nx, _⟩ := hx.open
  have HX : Hid (BigAt w bx x) := hx
  clear hx nx cx1
  by_cases hneg : x < 0
  · rw [decide_eq_true hneg] at cx0
    go_enter Tryz.func67, Tryz.ntmps67
    go_wp2_with fail
    refine (Uint64_any bx x w HX.out (by omega)).mono ?_
    rintro e w1 ⟨rfl, q, rfl⟩
    go_wp2
    go_ret
    exact ⟨ret_int (by omega), q, rfl⟩
  · rw [decide_eq_false hneg] at cx0
    go_enter Tryz.func67, Tryz.ntmps67
    go_wp2_with fail
    refine (Uint64_any bx x w HX.out (by omega)).mono ?_
    rintro e w1 ⟨rfl, q, rfl⟩
    go_wp2
    go_ret
    exact ⟨ret_int (by omega), q, rfl⟩

theorem length_any (s : Value) (a m : Nat) (w : World) (ha : NS w s a) (hm : a < pw m) (hm' : m ≤ 100000000) :
    Calls Tryz.prog 100 #[s] w fun e w' => ∃ L : Nat, e = .returned (.int .i64 (L : Int)) ∧ a < 2 ^ L ∧ L ≤ 3200000000 ∧ w' = w := by
  obtain ⟨l, aa, g, cap, rfl, va, na, sa, pa, cell, _, lt⟩ := ha.open
  subst va
  have l1 : l.length ≤ 100000000 := Nat.le_trans (na.len hm) hm'
  by_cases h0 : l.length = 0
  · obtain rfl : l = [] := List.length_eq_zero_iff.1 h0
    clear ha pa cell lt hm
    go_enter Tryz.func100, Tryz.ntmps100
    go_wp2
    go_ret
    exact ⟨0, rfl, by simp [val], by omega, rfl⟩
  · refine (length_core l aa g cap w (by omega) l1 sa (pa (by omega)) (cell _ (by omega))).mono ?_
    rintro e w' ⟨t, rfl, hb, ht, rfl⟩
    refine ⟨_, rfl, ?_, by omega, rfl⟩
    have h1 := val_split l (l.length - 1) (by omega)
    have h2 := take_lt l (l.length - 1) (by omega) sa
    have h3 : val (l.drop (l.length - 1 + 1)) = 0 := by rw [List.drop_eq_nil_of_le (by omega)]; rfl
    rw [h3, Nat.mul_zero, Nat.add_zero] at h1
    have h4 := hb.lt
    rw [h1, Nat.pow_add, Nat.mul_comm (l.length - 1), ← pw_two_pow]
    have h5 : pw (l.length - 1) * (l.getD (l.length - 1) 0 + 1) ≤ pw (l.length - 1) * 2 ^ t := Nat.mul_le_mul_left _ h4
    rw [Nat.mul_add, Nat.mul_one] at h5
    omega

/-- One bit of a number, out of its word. -/
theorem bit_word (l : List Nat) (i : Nat) (h : ∀ x ∈ l, x < 4294967296) (hi : i / 32 < l.length) : l.getD (i / 32) 0 / 2 ^ (i % 32) % 2 = val l / 2 ^ i % 2 := by
  rw [val_drop_shift l h i (i / 32) (i % 32) (by omega) (by omega), drop_step l (i / 32) hi]
  generalize l.getD (i / 32) 0 = x
  generalize val (l.drop (i / 32 + 1)) = V
  have hr : i % 32 < 32 := Nat.mod_lt _ (by omega)
  obtain ⟨r, gr⟩ : ∃ r, r = i % 32 := ⟨_, rfl⟩
  rw [← gr] at hr ⊢
  have e : 4294967296 * V = 2 ^ r * (2 * (2 ^ (31 - r) * V)) := by
    have : 2 ^ r * 2 * 2 ^ (31 - r) = 4294967296 := by
      rw [← Nat.pow_succ, ← Nat.pow_add, show r + 1 + (31 - r) = 32 by omega]
    rw [← Nat.mul_assoc, ← Nat.mul_assoc, this]
  rw [e, Nat.add_mul_div_left _ _ (Nat.two_pow_pos r)]
  omega

theorem low_bit (x r : Nat) (hx : x < 4294967296) : bits .and .u64 (IntKind.u64.wrap ((x : Int) / 2 ^ r)) 1 = ((x / 2 ^ r % 2 : Nat) : Int) := by
  have e : (x : Int) / 2 ^ r = ((x / 2 ^ r : Nat) : Int) := by simp
  have h : x / 2 ^ r ≤ x := Nat.div_le_self ..
  rw [e]
  generalize x / 2 ^ r = y at *
  have hw : IntKind.u64.wrap (y : Int) = (y : Int) := wrapN y (by omega)
  rw [hw]
  have := bits_and_u64_nat y 1 (by omega) (by omega)
  rw [Nat.and_one_is_mod] at this
  exact this

theorem bit_none (A i : Nat) (h : A < 2 ^ i) : A / 2 ^ i % 2 = 0 := by rw [Nat.div_eq_of_lt h]

set_option maxHeartbeats 1000000 in
theorem bit_any (s : Value) (A i m : Nat) (w : World) (hs : NS w s A) (hm : A < pw m) (hm' : m ≤ 100000000) (hi : i ≤ 4000000000) :
    Calls Tryz.prog 77 #[s, .int .i64 i] w fun e w' => e = .returned (.int .u64 ((A / 2 ^ i % 2 : Nat) : Int)) ∧ ∃ q, w' = w.drewN q := by
  obtain ⟨l, aa, g, cap, rfl, va, na, sa, pa, cell, _, lt⟩ := hs.open
  subst va
  have l1 : l.length ≤ 100000000 := Nat.le_trans (na.len hm) hm'
  by_cases h0 : i / 32 < l.length
  · obtain rfl := pa (by omega)
    have c0 := cell _ h0
    have s0 := List.getD_lt_of sa (i / 32)
    have hb := bit_word l i sa h0
    have hr : i % 32 < 32 := Nat.mod_lt _ (by omega)
    rw [← hb]
    obtain ⟨k, gk⟩ : ∃ k, k = i / 32 := ⟨_, rfl⟩
    obtain ⟨r, gr⟩ : ∃ r, r = i % 32 := ⟨_, rfl⟩
    rw [← gk] at c0 s0 h0 ⊢
    rw [← gr] at hr ⊢
    obtain ⟨x, gx⟩ : ∃ x, x = l.getD k 0 := ⟨_, rfl⟩
    rw [← gx] at c0 s0 ⊢
    have ek : (i : Int) / 32 = (k : Int) := by omega
    have er : (i : Int) % 32 = (r : Int) := by omega
    clear hs hm lt cell pa sa na hb gk gr gx
    go_enter Tryz.func77, Tryz.ntmps77
    go_wp2
    go_ret
    exact ⟨ret_int (low_bit x r s0), 0, rfl⟩
  · have hz : val l / 2 ^ i % 2 = 0 := by
      refine bit_none _ _ ?_
      have h1 := val_lt l sa
      rw [pw_two_pow] at h1
      exact Nat.lt_of_lt_of_le h1 (Nat.pow_le_pow_right (by omega) (by omega))
    rw [hz]
    clear hs hm lt cell pa sa na hz
    go_enter Tryz.func77, Tryz.ntmps77
    go_wp2
    go_ret
    exact ⟨rfl, 0, rfl⟩

end Go.Proofs.YtfbgblidlabipaaGreatDoor
end

section
/- Contracts: the calls Power and Inverse. -/
set_option linter.unusedSimpArgs false
set_option linter.unusedVariables false
set_option maxRecDepth 100000
namespace Go.Proofs.YtfbgblidlabipaaGreatDoor
open Go.RowKit

theorem triple_cells (a b c : Int) (W : World) (B : Nat) (h0 : W.cell? ⟨B, 0, none⟩ = some (.int .i64 a)) (h1 : W.cell? ⟨B, 1, none⟩ = some (.int .i64 b)) (h2 : W.cell? ⟨B, 2, none⟩ = some (.int .i64 c)) :
    ∀ j, j < [a, b, c].length → W.cell? ⟨B, 0 + j, none⟩ = some (.int .i64 ([a, b, c].getD j 0)) := by
  intro j hj
  match j, hj with
  | 0, _ => exact h0
  | 1, _ => exact h1
  | 2, _ => exact h2

def okB3 (a b c : Int) : Bool := numB a && numB b && numB c

theorem okB3_bounds {a b c : Int} (h : okB3 a b c = true) : a.natAbs ≤ 1000000000000000000 ∧ b.natAbs ≤ 1000000000000000000 ∧ c.natAbs ≤ 1000000000000000000 := by
  unfold okB3 at h; rw [Bool.and_eq_true, Bool.and_eq_true] at h
  have h1 := numB_true h.1.1; have h2 := numB_true h.1.2; have h3 := numB_true h.2; omega
theorem okB3_nf {a b c : Int} (h : okB3 a b c = true) : nf 0 [a, b, c] = (0, 0) := by
  unfold okB3 at h; rw [Bool.and_eq_true, Bool.and_eq_true] at h
  simp [nf, h.1.1, h.1.2, h.2]
theorem okB3_ne {a b c : Int} (h : okB3 a b c = false) : ((nf 0 [a, b, c]).1 != 0) = true := by
  unfold okB3 at h; unfold nf nf nf nf; cases h1 : numB a <;> cases h2 : numB b <;> cases h3 : numB c <;> simp_all

theorem okB_ne {a b : Int} (h : okB a b = false) : ((nf 0 [a, b]).1 != 0) = true := by
  unfold okB at h; unfold nf nf nf; cases h1 : numB a <;> cases h2 : numB b <;> simp_all

theorem inv_of_bez {a m u v : Int} (hm : 0 < m) (hg : Int.gcd a m = 1) (h : Bez a m u v) : 0 ≤ u ∧ u < m ∧ (u * a) % m = 1 % m := by
  have h1 := h.low (by omega)
  have h2 := h.high (by omega)
  have h3 := h.lin
  rw [hg] at h2 h3
  refine ⟨h1, by rw [Nat.div_one] at h2; omega, ?_⟩
  have e : u * a = 1 + m * (-v) := by rw [Int.mul_neg, Int.mul_comm m]; omega
  rw [e, Int.add_mul_emod_self_left]

end Go.Proofs.YtfbgblidlabipaaGreatDoor
end

section
/- Contracts: powerIsWithin, root, Root. -/
set_option linter.unusedSimpArgs false
set_option linter.unusedVariables false
set_option maxRecDepth 100000
namespace Go.Proofs.YtfbgblidlabipaaGreatDoor
open Go.RowKit

theorem pow_mono_exp {x i k : Nat} (hx : 1 ≤ x) (h : i ≤ k) : x ^ i ≤ x ^ k := Nat.pow_le_pow_right hx h

set_option maxHeartbeats 1000000 in
theorem within_any (x k n : Nat) (w : World) (hx : 1 ≤ x) (hxb : x ≤ 4000000000000000000) (hk : 1 ≤ k) (hkb : k ≤ 1000) (hn : n ≤ 1000000000000000000) :
    Calls Tryz.prog 231 #[.int .i64 x, .int .i64 k, .int .i64 n] w fun e w' => e = .returned (.bool (decide (x ^ k ≤ n))) ∧ ∃ q, w' = w.drewN q := by
  have tt : ((x : Int) == 0) = false := beq_eq_false_iff_ne.2 (by omega)
  have eq1 : (n : Int) / (x : Int) = ((n / x : Nat) : Int) := (Int.natCast_ediv ..).symm
  have hq : n / x ≤ n := Nat.div_le_self ..
  obtain ⟨Q, gQ⟩ : ∃ Q, Q = n / x := ⟨_, rfl⟩
  rw [← gQ] at eq1 hq
  have HQ : Hid (Q = n / x) := gQ
  clear gQ
  go_enter Tryz.func231, Tryz.ntmps231
  go_wp2
  go_loop [7, 9] (fun rv iv => ∃ i R : Nat, i ≤ k ∧ iv = .int .i64 i ∧ rv = .int .i64 R ∧ R ≤ 1000000000000000000 ∧ Hid (R = x ^ i ∧ (1 ≤ i → R ≤ n))) (fun _ iv => k - (intOf iv).toNat)
  case atStart => exact ⟨0, 1, Nat.zero_le _, rfl, rfl, by omega, rfl, fun h => absurd h (by omega)⟩
  case round =>
    obtain ⟨i, R, hi, rfl, rfl, hR, HR⟩ := hrel
    by_cases hlt : i < k
    · by_cases hgt : Q < R
      · have HF : Hid (¬ x ^ k ≤ n) := by
          show ¬ _
          have h1 : n < R * x := by
            have h2 : n / x < R := by rw [← HQ.out]; exact hgt
            exact (Nat.div_lt_iff_lt_mul (by omega)).1 h2
          have h3 : x ^ (i + 1) ≤ x ^ k := Nat.pow_le_pow_right hx hlt
          rw [Nat.pow_succ, ← HR.out.1] at h3
          omega
        go_wp2
        go_ret
        exact ⟨ret_bool (decide_eq_false HF.out).symm, 0, rfl⟩
      · have hle : R * x ≤ n := by
          have h1 : R ≤ n / x := by rw [← HQ.out]; omega
          have h2 := Nat.mul_le_mul_right x h1
          have h3 := Nat.div_mul_le_self n x
          omega
        have hI : 0 ≤ (R : Int) * (x : Int) ∧ (R : Int) * (x : Int) ≤ 1000000000000000000 := by rw [← Int.natCast_mul]; omega
        have HLE : Hid (R * x ≤ n) := hle
        clear hle
        go_wp2
        go_round
        case rel =>
          refine ⟨i + 1, R * x, by omega, by go_num, by simp, ?_, ?_, fun _ => HLE.out⟩
          · have := HLE.out; omega
          · rw [Nat.pow_succ, ← HR.out.1]
        case measure => simp [intOf]; omega
    · obtain rfl : i = k := by omega
      have HT : Hid (x ^ i ≤ n) := by show _ ≤ _; rw [← HR.out.1]; exact HR.out.2 hk
      go_wp2
      go_ret
      exact ⟨ret_bool (decide_eq_true HT.out).symm, 0, rfl⟩

theorem or_i64 (a b : Nat) (ha : a < 4611686018427387904) (hb : b < 4611686018427387904) : bits .or .i64 (a : Int) (b : Int) = ((a ||| b : Nat) : Int) := by
  have hx : a ||| b < 2 ^ 62 := Nat.or_lt_two_pow (by omega) (by omega)
  have h1 : (BitVec.ofInt 64 (a : Int)).toNat = a := by
    rw [BitVec.ofInt_natCast, BitVec.toNat_ofNat]; exact Nat.mod_eq_of_lt (by omega)
  have h2 : (BitVec.ofInt 64 (b : Int)).toNat = b := by
    rw [BitVec.ofInt_natCast, BitVec.toNat_ofNat]; exact Nat.mod_eq_of_lt (by omega)
  show IntKind.i64.wrap ((BitVec.ofInt 64 (a : Int) ||| BitVec.ofInt 64 (b : Int)).toNat : Int) = _
  rw [BitVec.toNat_or, h1, h2, IntKind.wrap_i64]
  omega

theorem or_top (A e p : Nat) (hp : 2 ^ e = p) (h0 : 0 < p) : A * (2 * p) ||| p = (2 * A + 1) * p := by
  have h2 : 2 ^ (e + 1) = 2 * p := by rw [Nat.pow_succ, hp, Nat.mul_comm]
  have h := Nat.two_pow_add_eq_or_of_lt (i := e + 1) (b := p) (by rw [h2]; omega) A
  rw [h2, Nat.mul_comm] at h
  rw [← h, Nat.add_mul, Nat.one_mul]
  congr 1
  simp only [Nat.mul_assoc, Nat.mul_comm, Nat.mul_left_comm]

theorem two60 : (2 : Nat) ^ 60 = 1152921504606846976 := by decide

theorem try_small (A i e p : Nat) (hie : i + (e + 1) = 60) (hA : A < 2 ^ i) (hp : 2 ^ e = p) : (A + 1) * (2 * p) ≤ 1152921504606846976 := by
  have h2 : 2 ^ (e + 1) = 2 * p := by rw [Nat.pow_succ, hp, Nat.mul_comm]
  have h := Nat.mul_le_mul_right (2 ^ (e + 1)) (show A + 1 ≤ 2 ^ i from hA)
  rw [← Nat.pow_add, hie, two60, h2] at h
  exact h

theorem try_word (A e p : Nat) (hp : 2 ^ e = p) (h0 : 0 < p) (hb : (A + 1) * (2 * p) ≤ 1152921504606846976) : bits .or .i64 ((A : Int) * (2 * p : Nat)) (wrap64 (p : Int)) = (((2 * A + 1) * p : Nat) : Int) := by
  rw [Nat.add_mul, Nat.one_mul] at hb
  have e2 : wrap64 (p : Int) = (p : Int) := by unfold wrap64; omega
  rw [e2, ← Int.natCast_mul, or_i64 _ _ (by omega) (by omega), or_top A e p hp h0]

theorem try_bit (A i : Nat) (hi : i < 60) (hA : A < 2 ^ i) : bits .or .i64 ((A : Int) * 2 ^ (60 - i)) (wrap64 (2 ^ (59 - i))) = (((2 * A + 1) * 2 ^ (59 - i) : Nat) : Int) ∧ (2 * A + 1) * 2 ^ (59 - i) < 1152921504606846976 := by
  obtain ⟨e, he⟩ : ∃ e, e = 59 - i := ⟨_, rfl⟩
  rw [show 60 - i = e + 1 by omega, ← he]
  obtain ⟨p, hp⟩ : ∃ p, 2 ^ e = p := ⟨_, rfl⟩
  have h0 : 0 < p := by rw [← hp]; exact Nat.two_pow_pos e
  have hb := try_small A i e p (by omega) hA hp
  have e1 : (2 : Int) ^ (e + 1) = ((2 * p : Nat) : Int) := by rw [← hp, Nat.mul_comm, ← Nat.pow_succ]; simp
  have e2 : (2 : Int) ^ e = (p : Int) := by rw [← hp]; simp
  rw [e1, e2, hp]
  refine ⟨try_word A e p hp h0 hb, ?_⟩
  have : (2 * A + 1) * p + p = (A + 1) * (2 * p) := by
    rw [Nat.add_mul, Nat.add_mul, Nat.one_mul, Nat.one_mul, Nat.mul_comm 2 A, Nat.mul_assoc]; omega
  omega

set_option maxHeartbeats 1000000 in
theorem root_any (n k : Nat) (w : World) (hk : 1 ≤ k) (hkb : k ≤ 60) (hn : n ≤ 1000000000000000000) :
    Calls Tryz.prog 180 #[.int .i64 n, .int .i64 k] w fun e w' => ∃ r : Nat, e = .returned (.int .i64 (r : Int)) ∧ r ^ k ≤ n ∧ n < (r + 1) ^ k ∧ r < 1152921504606846976 ∧ ∃ q, w' = w.drewN q := by
  go_enter Tryz.func180, Tryz.ntmps180
  go_wp2
  go_loopw [5, 8] (fun av iv wx => ∃ i A : Nat, i ≤ 60 ∧ iv = .int .i64 i ∧ av = .int .i64 (A * 2 ^ (60 - i) : Nat) ∧ A < 2 ^ i ∧ Hid ((A * 2 ^ (60 - i)) ^ k ≤ n ∧ n < ((A + 1) * 2 ^ (60 - i)) ^ k ∧ ∃ q, wx = w.drewN q)) (fun _ iv _ => 60 - (intOf iv).toNat)
  case atStart =>
    refine ⟨0, 0, by omega, rfl, rfl, by decide, ?_, ?_, 0, rfl⟩
    · rw [Nat.zero_mul, Nat.zero_pow hk]; omega
    · have h1 : (2 ^ 60) ^ 1 ≤ (2 ^ 60) ^ k := Nat.pow_le_pow_right (by decide) hk
      simp only [Nat.zero_add, Nat.one_mul, Nat.sub_zero]
      omega
  case round =>
    obtain ⟨i, A, hi, rfl, rfl, hA, HR⟩ := hrel
    by_cases hlt : i < 60
    · obtain ⟨htb, hTl⟩ := try_bit A i hlt hA
      obtain ⟨T, gT⟩ : ∃ T, T = (2 * A + 1) * 2 ^ (59 - i) := ⟨_, rfl⟩
      have hT1 : 1 ≤ T := by rw [gT]; exact Nat.mul_pos (by omega) (Nat.two_pow_pos _)
      rw [← gT] at htb hTl
      have HT : Hid (T = (2 * A + 1) * 2 ^ (59 - i)) := gT
      have HB : Hid (bits .or .i64 ((A : Int) * 2 ^ (60 - i)) (wrap64 (2 ^ (59 - i))) = (T : Int)) := htb
      have h60 : (2 : Nat) ^ (60 - i) = 2 * 2 ^ (59 - i) := by rw [show 60 - i = (59 - i) + 1 by omega, Nat.pow_succ, Nat.mul_comm]
      have HA2 : Hid (A * 2 ^ (60 - i) = 2 * A * 2 ^ (60 - (i + 1))) := by
        show _ = _
        rw [show 60 - (i + 1) = 59 - i by omega, h60]
        simp only [Nat.mul_assoc, Nat.mul_comm, Nat.mul_left_comm]
      have HA3 : Hid ((A + 1) * 2 ^ (60 - i) = (2 * A + 1 + 1) * 2 ^ (60 - (i + 1))) := by
        show _ = _
        rw [show 60 - (i + 1) = 59 - i by omega, h60, show 2 * A + 1 + 1 = 2 * (A + 1) by omega]
        simp only [Nat.mul_assoc, Nat.mul_comm, Nat.mul_left_comm]
      have HP2 : Hid (2 ^ (i + 1) = 2 * 2 ^ i) := by show _ = _; rw [Nat.pow_succ, Nat.mul_comm]
      clear htb gT h60
      go_wp2_with fail
      rw [HB.out]
      refine (within_any T k n _ hT1 (by omega) hk (by omega) hn).mono ?_
      by_cases hle : T ^ k ≤ n
      · have HLE : Hid (T ^ k ≤ n) := hle
        rw [decide_eq_true hle]
        clear hle
        rintro e w1 ⟨rfl, q1, rfl⟩
        go_wp2
        go_roundw
        case rel =>
          obtain ⟨q, hq⟩ := HR.out.2.2
          refine ⟨i + 1, 2 * A + 1, by omega, by go_num, ?_, ?_, ?_, ?_, ?_⟩
          · rw [show 60 - (i + 1) = 59 - i by omega, ← HT.out]
          · have := HP2.out; omega
          · rw [show 60 - (i + 1) = 59 - i by omega, ← HT.out]; exact HLE.out
          · rw [← HA3.out]; exact HR.out.2.1
          · exact drewN_more ⟨q, hq⟩ _
        case measure => simp [intOf]; omega
      · have HLE : Hid (n < T ^ k) := Nat.lt_of_not_le hle
        rw [decide_eq_false hle]
        clear hle
        rintro e w1 ⟨rfl, q1, rfl⟩
        go_wp2
        go_roundw
        case rel =>
          obtain ⟨q, hq⟩ := HR.out.2.2
          refine ⟨i + 1, 2 * A, by omega, by go_num, ?_, ?_, ?_, ?_, ?_⟩
          · rw [← HA2.out]; congr 1
          · have := HP2.out; omega
          · rw [← HA2.out]; exact HR.out.1
          · rw [show 60 - (i + 1) = 59 - i by omega, ← HT.out]; exact HLE.out
          · exact drewN_more ⟨q, hq⟩ _
        case measure => simp [intOf]; omega
    · obtain rfl : i = 60 := by omega
      obtain ⟨q, rfl⟩ := HR.out.2.2
      have H1 := HR.out.1
      have H2 := HR.out.2.1
      simp only [Nat.sub_self, Nat.pow_zero, Nat.mul_one] at H1 H2
      have HH1 : Hid (A ^ k ≤ n) := H1
      have HH2 : Hid (n < (A + 1) ^ k) := H2
      clear H1 H2
      go_wp2
      go_ret
      exact ⟨A, ret_int (by simp), HH1.out, HH2.out, by simpa using hA, q, rfl⟩

set_option maxHeartbeats 400000 in
theorem Root_far (n k : Int) (w : World) (h : numB n = false ∨ n < 0) :
    Calls Tryz.prog 130 #[.int .i64 n, .int .i64 k] w fun e w' => e = .returned (.tuple #[.int .i64 0, .agg #[.int .i64 3, .int .i64 0]]) ∧ Below w.heap.size w w' := by
  cases hn : numB n
  · clear h
    go_enter Tryz.func130, Tryz.ntmps130
    go_wp2_with (go_at_call 120; refine (isNumber_any _ _).mono ?_; rintro e w' ⟨rfl, rfl⟩)
    refine bodyPost_ret (v := .tuple #[.int .i64 0, .agg #[.int .i64 3, .int .i64 0]]) (by simp [results, Tryz.results130, go_sem]) rfl ⟨rfl, ?_⟩
    exact Below.alloc (Below.refl _ _) (Nat.le_refl _) _
  · have h2 : n < 0 := by rcases h with h | h; (rw [hn] at h; cases h); exact h
    clear h
    go_enter Tryz.func130, Tryz.ntmps130
    go_wp2_with (go_at_call 120; refine (isNumber_any _ _).mono ?_; rintro e w' ⟨rfl, rfl⟩)
    refine bodyPost_ret (v := .tuple #[.int .i64 0, .agg #[.int .i64 3, .int .i64 0]]) (by simp [results, Tryz.results130, go_sem]) rfl ⟨rfl, ?_⟩
    exact Below.alloc (Below.refl _ _) (Nat.le_refl _) _

set_option maxHeartbeats 400000 in
theorem Root_many (n k : Int) (w : World) (hn : numB n = true) (h0 : 0 ≤ n) (h : k < 1 ∨ 60 < k) :
    Calls Tryz.prog 130 #[.int .i64 n, .int .i64 k] w fun e w' => e = .returned (.tuple #[.int .i64 0, .agg #[.int .i64 3, .int .i64 1]]) ∧ Below w.heap.size w w' := by
  by_cases h1 : k < 1
  · clear h
    go_enter Tryz.func130, Tryz.ntmps130
    go_wp2_with (go_at_call 120; refine (isNumber_any _ _).mono ?_; rintro e w' ⟨rfl, rfl⟩)
    refine bodyPost_ret (v := .tuple #[.int .i64 0, .agg #[.int .i64 3, .int .i64 1]]) (by simp [results, Tryz.results130, go_sem]) rfl ⟨rfl, ?_⟩
    exact Below.alloc (Below.refl _ _) (Nat.le_refl _) _
  · have h2 : 60 < k := by omega
    clear h
    go_enter Tryz.func130, Tryz.ntmps130
    go_wp2_with (go_at_call 120; refine (isNumber_any _ _).mono ?_; rintro e w' ⟨rfl, rfl⟩)
    refine bodyPost_ret (v := .tuple #[.int .i64 0, .agg #[.int .i64 3, .int .i64 1]]) (by simp [results, Tryz.results130, go_sem]) rfl ⟨rfl, ?_⟩
    exact Below.alloc (Below.refl _ _) (Nat.le_refl _) _

set_option maxHeartbeats 400000 in
theorem Root_ok (n k : Nat) (w : World) (hn : numB (n : Int) = true) (h1 : 1 ≤ k) (h2 : k ≤ 60) :
    Calls Tryz.prog 130 #[.int .i64 n, .int .i64 k] w fun e w' => ∃ r : Nat, e = .returned (.tuple #[.int .i64 (r : Int), .agg #[.int .i64 0, .int .i64 0]]) ∧ r ^ k ≤ n ∧ n < (r + 1) ^ k ∧ r < 1152921504606846976 ∧ Below w.heap.size w w' := by
  have hb := numB_true hn
  go_enter Tryz.func130, Tryz.ntmps130
  go_wp2_with (first | (go_at_call 120; refine (isNumber_any _ _).mono ?_; rintro e w' ⟨rfl, rfl⟩) | (go_at_call 180; refine (root_any n k _ h1 h2 (by omega)).mono ?_; rintro e w' ⟨r, rfl, r1, r2, r3, q, rfl⟩))
  refine bodyPost_ret (v := .tuple #[.int .i64 (r : Int), .agg #[.int .i64 0, .int .i64 0]]) (by simp [results, Tryz.results130, go_sem]) rfl ⟨r, rfl, r1, r2, r3, ?_⟩
  exact ((below_drewN' (Below.alloc (Below.refl _ _) (Nat.le_refl _) _)).setCell (Nat.le_refl _) _).setCell (Nat.le_refl _) _

end Go.Proofs.YtfbgblidlabipaaGreatDoor
end
