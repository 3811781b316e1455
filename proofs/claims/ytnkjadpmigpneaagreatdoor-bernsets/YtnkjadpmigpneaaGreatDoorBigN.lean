import Derived.Test.YtnkjadpmigpneaaGreatDoorBigM
import Derived.Test.YtnkjadpmigpneaaGreatDoorJpU
set_option linter.unusedSimpArgs false
set_option linter.unusedVariables false
set_option maxRecDepth 100000
namespace Go.Proofs.YtnkjadpmigpneaaGreatDoor
open Go.RowKit
structure Upd2 (b c : Nat) (w w' : World) : Prop where
  os : w'.os = w.os
  tape : w'.tape = w.tape
  output : w'.output = w.output
  size : w.heap.size ≤ w'.heap.size
  block : ∀ k, k < w.heap.size → k ≠ b → k ≠ c → w'.heap[k]? = w.heap[k]?
theorem Upd.two {b : Nat} {w w' : World} (h : Upd b w w') (c : Nat) : Upd2 b c w w' := ⟨h.os, h.tape, h.output, h.size, fun k hk h1 _ => h.block k hk h1⟩
theorem Upd.two' {b : Nat} {w w' : World} (h : Upd b w w') (c : Nat) : Upd2 c b w w' := ⟨h.os, h.tape, h.output, h.size, fun k hk _ h1 => h.block k hk h1⟩
theorem Upd2.trans {b c : Nat} {x y z : World} (h : Upd2 b c x y) (k : Upd2 b c y z) : Upd2 b c x z :=
  ⟨k.os.trans h.os, k.tape.trans h.tape, k.output.trans h.output, Nat.le_trans h.size k.size, fun i hi h1 h2 => (k.block i (Nat.lt_of_lt_of_le hi h.size) h1 h2).trans (h.block i hi h1 h2)⟩
theorem Upd2.of_below {b c : Nat} {w w' : World} (h : Below w.heap.size w w') : Upd2 b c w w' := (Upd.of_below (b := b) h).two c
theorem Upd2.refl (b c : Nat) (w : World) : Upd2 b c w w := (Upd.refl b w).two c
theorem Upd2.drewN {b c n : Nat} {x y : World} (h : Upd2 b c x y) : Upd2 b c x (y.drewN n) := ⟨h.os, h.tape, h.output, h.size, h.block⟩
theorem Upd2.swap {b c : Nat} {w w' : World} (h : Upd2 b c w w') : Upd2 c b w w' := ⟨h.os, h.tape, h.output, h.size, fun k hk h1 h2 => h.block k hk h2 h1⟩
theorem Upd2.fresh {b c : Nat} {w w1 w' : World} (h0 : Below w.heap.size w w1) (hb : w.heap.size ≤ b) (h : Upd2 b c w1 w') : Upd c w w' :=
  ⟨h.os.trans h0.os, h.tape.trans h0.tape, h.output.trans h0.output, Nat.le_trans h0.size h.size, fun k hk h1 => (h.block k (Nat.lt_of_lt_of_le hk h0.size) (by omega) h1).trans (h0.block k hk)⟩
theorem sgd_div (x y : Int) : sgd (decide (x < 0) != decide (y < 0)) (x.natAbs / y.natAbs) = x.tdiv y := by
  rcases Int.lt_or_le x 0 with hx | hx <;> rcases Int.lt_or_le y 0 with hy | hy
  · rw [decide_eq_true hx, decide_eq_true hy]
    obtain ⟨a, rfl⟩ : ∃ a : Nat, x = -(a : Int) := ⟨x.natAbs, by omega⟩
    obtain ⟨b, rfl⟩ : ∃ b : Nat, y = -(b : Int) := ⟨y.natAbs, by omega⟩
    show (((-(a : Int)).natAbs / (-(b : Int)).natAbs : Nat) : Int) = _
    rw [Int.natAbs_neg, Int.natAbs_natCast, Int.natAbs_neg, Int.natAbs_natCast, Int.neg_tdiv, Int.tdiv_neg, Int.neg_neg, Int.ofNat_tdiv]
  · rw [decide_eq_true hx, decide_eq_false (Int.not_lt.2 hy)]
    obtain ⟨a, rfl⟩ : ∃ a : Nat, x = -(a : Int) := ⟨x.natAbs, by omega⟩
    obtain ⟨b, rfl⟩ : ∃ b : Nat, y = (b : Int) := ⟨y.natAbs, by omega⟩
    show -(((-(a : Int)).natAbs / (b : Int).natAbs : Nat) : Int) = _
    rw [Int.natAbs_neg, Int.natAbs_natCast, Int.natAbs_natCast, Int.neg_tdiv, Int.ofNat_tdiv]
  · rw [decide_eq_false (Int.not_lt.2 hx), decide_eq_true hy]
    obtain ⟨a, rfl⟩ : ∃ a : Nat, x = (a : Int) := ⟨x.natAbs, by omega⟩
    obtain ⟨b, rfl⟩ : ∃ b : Nat, y = -(b : Int) := ⟨y.natAbs, by omega⟩
    show -(((a : Int).natAbs / (-(b : Int)).natAbs : Nat) : Int) = _
    rw [Int.natAbs_neg, Int.natAbs_natCast, Int.natAbs_natCast, Int.tdiv_neg, Int.ofNat_tdiv]
  · rw [decide_eq_false (Int.not_lt.2 hx), decide_eq_false (Int.not_lt.2 hy)]
    obtain ⟨a, rfl⟩ : ∃ a : Nat, x = (a : Int) := ⟨x.natAbs, by omega⟩
    obtain ⟨b, rfl⟩ : ∃ b : Nat, y = (b : Int) := ⟨y.natAbs, by omega⟩
    show (((a : Int).natAbs / (b : Int).natAbs : Nat) : Int) = _
    rw [Int.natAbs_natCast, Int.natAbs_natCast, Int.ofNat_tdiv]
theorem sgd_mod (x y : Int) : sgd (decide (x < 0)) (x.natAbs % y.natAbs) = x.tmod y := by
  have h : x.tmod y = x.tmod (y.natAbs : Int) := by
    rcases Int.natAbs_eq y with e | e
    · rw [← e]
    · rw [e, Int.tmod_neg, Int.natAbs_neg]; rfl
  rw [h]
  rcases Int.lt_or_le x 0 with hx | hx
  · rw [decide_eq_true hx]
    obtain ⟨a, rfl⟩ : ∃ a : Nat, x = -(a : Int) := ⟨x.natAbs, by omega⟩
    show -(((-(a : Int)).natAbs % y.natAbs : Nat) : Int) = _
    rw [Int.natAbs_neg, Int.natAbs_natCast, Int.neg_tmod, Int.ofNat_tmod]
  · rw [decide_eq_false (Int.not_lt.2 hx)]
    obtain ⟨a, rfl⟩ : ∃ a : Nat, x = (a : Int) := ⟨x.natAbs, by omega⟩
    show (((a : Int).natAbs % y.natAbs : Nat) : Int) = _
    rw [Int.natAbs_natCast, Int.ofNat_tmod]
set_option maxHeartbeats 1000000 in
theorem QuoRem_any (bz bx by' br : Nat) (x y : Int) (m n : Nat) (w : World) (hz : Slot w bz) (hr : Slot w br) (hne : bz ≠ br) (hx : BigAt w bx x) (hy : BigAt w by' y) (hy0 : y ≠ 0) (hm : x.natAbs < pw m) (hn : y.natAbs < pw n) (hm' : m ≤ 100000000) (hn' : n ≤ 100000000) :
    Calls Tryz.prog 102 #[.pointer (some ⟨bz, 0, none⟩), .pointer (some ⟨bx, 0, none⟩), .pointer (some ⟨by', 0, none⟩), .pointer (some ⟨br, 0, none⟩)] w fun e w' => e = .returned (.tuple #[.pointer (some ⟨bz, 0, none⟩), .pointer (some ⟨br, 0, none⟩)]) ∧ BigAt w' bz (x.tdiv y) ∧ BigAt w' br (x.tmod y) ∧ Upd2 bz br w w' := by
  obtain ⟨xa, xl, xc, cx0, cx1, nx, _⟩ := hx.open
  obtain ⟨ya, yl, yc, cy0, cy1, ny, _⟩ := hy.open
  have lx := hx.lt
  have ly := hy.lt
  have HZ : Hid (Slot w bz) := hz
  have HRR : Hid (Slot w br) := hr
  have NX : Hid (NS w (.slice xa xl xc) x.natAbs) := nx
  have NY : Hid (NS w (.slice ya yl yc) y.natAbs) := ny
  have HM : Hid (x.natAbs < pw m) := hm
  have HN : Hid (y.natAbs < pw n) := hn
  have HY0 : Hid (0 < y.natAbs) := by show _ < _; omega
  clear hx hy hz hr nx ny hm hn hy0
  obtain ⟨p, hp⟩ : ∃ p, p = decide (x < 0) := ⟨_, rfl⟩
  obtain ⟨q, hq⟩ : ∃ q, q = decide (y < 0) := ⟨_, rfl⟩
  rw [← hp] at cx0
  rw [← hq] at cy0
  have HD : Hid (sgd (p != q) (x.natAbs / y.natAbs) = x.tdiv y) := by show _ = _; rw [hp, hq, sgd_div]
  have HMD : Hid (sgd p (x.natAbs % y.natAbs) = x.tmod y) := by show _ = _; rw [hp, sgd_mod]
  clear hp hq
  go_enter Tryz.func102, Tryz.ntmps102
  go_wp2
  go_quiet (fail)
  generalize hw1 : w.drewN nq = w1
  have e1 : w1.heap.size = w.heap.size := by rw [← hw1]; rfl
  have cx : w1.cell? ⟨bx, 1, none⟩ = some (.slice xa xl xc) := by rw [← hw1]; exact cx1
  have cy : w1.cell? ⟨by', 1, none⟩ = some (.slice ya yl yc) := by rw [← hw1]; exact cy1
  have NX1 : Hid (NS w1 (.slice xa xl xc) x.natAbs) := by rw [← hw1]; exact NX.out.drewN
  have NY1 : Hid (NS w1 (.slice ya yl yc) y.natAbs) := by rw [← hw1]; exact NY.out.drewN
  have HZ1 : Hid (Slot w1 bz) := by rw [← hw1]; exact HZ.out
  have HRR1 : Hid (Slot w1 br) := by rw [← hw1]; exact HRR.out
  have HU1 : Hid (Upd2 bz br w w1) := by rw [← hw1]; exact (Upd2.refl bz br w).drewN
  clear hw1 NX NY HZ HRR cx0 cx1 cy0 cy1
  go_wp2_with fail
  refine wp_region_G (fun w' => w'.cell? ⟨bx, 1, none⟩ = some (.slice xa xl xc) ∧ w'.cell? ⟨by', 1, none⟩ = some (.slice ya yl yc)) 13 (by kernel_rfl) ⟨cx, cy⟩ (fun hHeld => ?_)
  refine wpAnyG_take (i := 0) (v := ?v0) rfl (by kernel_rfl) (fun _ _ _ h => h) (Or.inl ⟨by rfl, ?y0⟩) hHeld ?r0
  case y0 => (intro wS hSw; obtain ⟨s1, s2⟩ := hSw; go_simp; try with_reducible rfl)
  try simp only [Act.put, List.setIfInBounds_toArray, List.set_cons_zero, List.set_cons_succ]
  refine wpAnyG_take (i := 1) (v := ?v1) rfl (by kernel_rfl) (fun _ _ _ h => h) (Or.inl ⟨by rfl, ?y1⟩) hHeld ?r1
  case y1 => (intro wS hSw; obtain ⟨s1, s2⟩ := hSw; go_simp; try with_reducible rfl)
  try simp only [Act.put, List.setIfInBounds_toArray, List.set_cons_zero, List.set_cons_succ]
  refine wpAnyG_take (i := 2) (v := ?v2) rfl (by kernel_rfl) (fun _ _ _ h => h) (Or.inl ⟨by rfl, ?y2⟩) hHeld ?r2
  case y2 => (intro wS hSw; obtain ⟨s1, s2⟩ := hSw; go_simp; try with_reducible rfl)
  try simp only [Act.put, List.setIfInBounds_toArray, List.set_cons_zero, List.set_cons_succ]
  refine wpAnyG_take (i := 3) (v := ?v3) rfl (by kernel_rfl) (fun _ _ _ h => h) (Or.inl ⟨by rfl, ?y3⟩) hHeld ?r3
  case y3 => (intro wS hSw; obtain ⟨s1, s2⟩ := hSw; go_simp; try with_reducible rfl)
  try simp only [Act.put, List.setIfInBounds_toArray, List.set_cons_zero, List.set_cons_succ]
  refine wpAnyG_take (i := 4) (v := ?v4) rfl (by kernel_rfl) (fun _ _ _ h => h) (Or.inl ⟨by rfl, ?y4⟩) hHeld ?r4
  case y4 => (intro wS hSw; obtain ⟨s1, s2⟩ := hSw; go_simp; try with_reducible rfl)
  try simp only [Act.put, List.setIfInBounds_toArray, List.set_cons_zero, List.set_cons_succ]
  refine wpAnyG_take (i := 5) (v := ?v5) rfl (by kernel_rfl) (fun _ _ _ h => h) (Or.inl ⟨by rfl, ?y5⟩) hHeld ?r5
  case y5 => (intro wS hSw; obtain ⟨s1, s2⟩ := hSw; go_simp; try with_reducible rfl)
  try simp only [Act.put, List.setIfInBounds_toArray, List.set_cons_zero, List.set_cons_succ]
  refine wpAnyG_take (i := 6) (v := ?v6) rfl (by kernel_rfl) (fun _ _ _ h => h) (Or.inl ⟨by rfl, ?y6⟩) hHeld ?r6
  case y6 => (intro wS hSw; obtain ⟨s1, s2⟩ := hSw; go_simp; try with_reducible rfl)
  try simp only [Act.put, List.setIfInBounds_toArray, List.set_cons_zero, List.set_cons_succ]
  refine wpAnyG_take (i := 7) (v := ?v7) rfl (by kernel_rfl) (fun _ _ _ h => h) (Or.inl ⟨by rfl, ?y7⟩) hHeld ?r7
  case y7 => (intro wS hSw; obtain ⟨s1, s2⟩ := hSw; go_simp; try with_reducible rfl)
  try simp only [Act.put, List.setIfInBounds_toArray, List.set_cons_zero, List.set_cons_succ]
  refine wpAnyG_one (i := 8) rfl (by kernel_rfl) (fun K hK => ?_)
  go_simp
  refine (div_any _ _ x.natAbs y.natAbs m n _ NX1.out.drew NY1.out.drew HM.out HN.out hm' hn' HY0.out).mono ?_
  rintro e w2 ⟨r1, r2, rfl, hq1, hq2, hb⟩
  obtain ⟨qa, ql, qc, rfl, _⟩ := hq1.shape
  obtain ⟨ta, tl, tc, rfl, _⟩ := hq2.shape
  clear hHeld
  have hHeld : w2.cell? ⟨bx, 1, none⟩ = some (.slice xa xl xc) ∧ w2.cell? ⟨by', 1, none⟩ = some (.slice ya yl yc) := ⟨(hb.cell (p := ⟨bx, 1, none⟩) (show bx < w1.heap.size by omega)).trans cx, (hb.cell (p := ⟨by', 1, none⟩) (show by' < w1.heap.size by omega)).trans cy⟩
  refine hK.out _ _ hHeld ?_
  clear hK K
  try simp only [Act.put, List.setIfInBounds_toArray, List.set_cons_zero, List.set_cons_succ]
  refine wpAnyG_one (i := 9) rfl (by kernel_rfl) (fun K hK => ?_)
  go_simp
  refine hK.out _ _ hHeld ?_
  clear hK K
  try simp only [Act.put, List.setIfInBounds_toArray, List.set_cons_zero, List.set_cons_succ]
  refine wpAnyG_take (i := 10) (v := ?v10) rfl (by kernel_rfl) (fun _ _ _ h => h) (Or.inl ⟨by rfl, ?y10⟩) hHeld ?r10
  case y10 => (intro wS hSw; obtain ⟨s1, s2⟩ := hSw; go_simp; try with_reducible rfl)
  try simp only [Act.put, List.setIfInBounds_toArray, List.set_cons_zero, List.set_cons_succ]
  refine wpAnyG_take (i := 11) (v := ?v11) rfl (by kernel_rfl) (fun _ _ _ h => h) (Or.inl ⟨by rfl, ?y11⟩) hHeld ?r11
  case y11 => (intro wS hSw; obtain ⟨s1, s2⟩ := hSw; go_simp; try with_reducible rfl)
  try simp only [Act.put, List.setIfInBounds_toArray, List.set_cons_zero, List.set_cons_succ]
  refine wpAnyG_one (i := 12) rfl (by kernel_rfl) (fun K hK => ?_)
  go_simp
  refine hK.out _ _ hHeld ?_
  clear hK K
  try simp only [Act.put, List.setIfInBounds_toArray, List.set_cons_zero, List.set_cons_succ]
  refine wpAnyG_last (i := 13) rfl (by kernel_rfl) (by kernel_rfl) (fun K hK => ?_)
  go_simp
  refine hK.out _ _ ?_
  clear hK K
  try simp only [Act.put, List.setIfInBounds_toArray, List.set_cons_zero, List.set_cons_succ]
  refine wpAnyG_done (by kernel_rfl) ?_ _
  have HQ1 : Hid (NS w2 (.slice qa ql qc) (x.natAbs / y.natAbs)) := hq1
  have HQ2 : Hid (NS w2 (.slice ta tl tc) (x.natAbs % y.natAbs)) := hq2
  have HZ2 : Hid (Slot w2 bz) := HZ1.out.drew.below hb (Nat.le_refl _)
  have HRR2 : Hid (Slot w2 br) := HRR1.out.drew.below hb (Nat.le_refl _)
  have HU2 : Hid (Upd2 bz br w w2) := HU1.out.trans (((Upd.refl bz w1).drew.two br).trans (Upd2.of_below hb))
  clear hHeld hq1 hq2 hb cx cy
  go_wp2_with fail
  refine (give_any bz (p != q) _ (x.natAbs / y.natAbs) _ HZ2.out HQ1.out).mono ?_
  rw [HD.out]
  rintro e w3 ⟨rfl, hbig, hu⟩
  have HB3 : Hid (BigAt w3 bz (x.tdiv y)) := hbig
  have HU3 : Hid (Upd bz w2 w3) := hu
  clear hbig hu
  go_wp2_with fail
  refine (give_any br p _ (x.natAbs % y.natAbs) _ (HRR2.out.upd HU3.out (Ne.symm hne)) (HQ2.out.upd HU3.out HZ2.out)).mono ?_
  rw [HMD.out]
  rintro e w4 ⟨rfl, hbig, hu⟩
  have HB4 : Hid (BigAt w4 br (x.tmod y)) := hbig
  have HU4 : Hid (Upd br w3 w4) := hu
  clear hbig hu
  go_wp2
  go_ret2
  exact ⟨rfl, HB3.out.upd HU4.out (HRR2.out.upd HU3.out (Ne.symm hne)) hne, HB4.out, (HU2.out.trans (HU3.out.two br)).trans (HU4.out.two' bz)⟩
theorem Quo_any (bz bx by' : Nat) (x y : Int) (m n : Nat) (w : World) (hz : Slot w bz) (hx : BigAt w bx x) (hy : BigAt w by' y) (hy0 : y ≠ 0) (hm : x.natAbs < pw m) (hn : y.natAbs < pw n) (hm' : m ≤ 100000000) (hn' : n ≤ 100000000) :
    Calls Tryz.prog 70 #[.pointer (some ⟨bz, 0, none⟩), .pointer (some ⟨bx, 0, none⟩), .pointer (some ⟨by', 0, none⟩)] w fun e w' => e = .returned (.pointer (some ⟨bz, 0, none⟩)) ∧ BigAt w' bz (x.tdiv y) ∧ Upd bz w w' := by
  have lz := hz.lt
  have HZ : Hid (Slot w bz) := hz
  have HX : Hid (BigAt w bx x) := hx
  have HY : Hid (BigAt w by' y) := hy
  have HM : Hid (x.natAbs < pw m) := hm
  have HN : Hid (y.natAbs < pw n) := hn
  have HY0 : Hid (y ≠ 0) := hy0
  clear hx hy hz hm hn hy0
  go_enter Tryz.func70, Tryz.ntmps70
  go_wp2_with fail
  refine (QuoRem_any bz bx by' w.heap.size x y m n _ (HZ.out.below (Below.alloc_self' w _) (Nat.le_refl _)) (slot_new w _ _) (by omega) (HX.out.below (Below.alloc_self' w _) (Nat.le_refl _)) (HY.out.below (Below.alloc_self' w _) (Nat.le_refl _)) HY0.out HM.out HN.out hm' hn').mono ?_
  rintro e w1 ⟨rfl, h2, _, h3⟩
  go_wp2
  go_ret
  exact ⟨rfl, h2, h3.swap.fresh (Below.alloc_self' w _) (Nat.le_refl _)⟩
end Go.Proofs.YtnkjadpmigpneaaGreatDoor
