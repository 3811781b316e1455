import Derived.Test.YtcnfhndejkngkaaGreatDoorBigM
import Derived.Test.YtcnfhndejkngkaaGreatDoorJpG
set_option linter.unusedSimpArgs false
set_option linter.unusedVariables false
set_option maxRecDepth 100000
namespace Go.Proofs.YtcnfhndejkngkaaGreatDoor
open Go.RowKit
structure Upd2 (b c : Nat) (w w' : World) : Prop where
  os : w'.os = w.os
  tape : w'.tape = w.tape
  output : w'.output = w.output
  size : w.heap.size ≤ w'.heap.size
  block : ∀ k, k < w.heap.size → k ≠ b → k ≠ c → w'.heap[k]? = w.heap[k]?
theorem Upd.two {b : Nat} {w w' : World} (h : Upd b w w') (c : Nat) : Upd2 b c w w' := ⟨h.os, h.tape, h.output, h.size, fun k hk h1 _ => h.block k hk h1⟩
theorem Upd.two' {b : Nat} {w w' : World} (h : Upd b w w') (c : Nat) : Upd2 c b w w' := ⟨h.os, h.tape, h.output, h.size, fun k hk _ h1 => h.block k hk h1⟩
theorem Upd2.trans {b c : Nat} {x y z : World} (h : Upd2 b c x y) (k : Upd2 b c y z) : Upd2 b c x z :=
  ⟨k.os.trans h.os, k.tape.trans h.tape, k.output.trans h.output, Nat.le_trans h.size k.size, fun i hi h1 h2 => (k.block i (Nat.lt_of_lt_of_le hi h.size) h1 h2).trans (h.block i hi h1 h2)⟩
theorem Upd2.of_below {b c : Nat} {w w' : World} (h : Below w.heap.size w w') : Upd2 b c w w' := (Upd.of_below (b := b) h).two c
theorem Upd2.refl (b c : Nat) (w : World) : Upd2 b c w w := (Upd.refl b w).two c
theorem Upd2.drewN {b c n : Nat} {x y : World} (h : Upd2 b c x y) : Upd2 b c x (y.drewN n) := ⟨h.os, h.tape, h.output, h.size, h.block⟩
theorem Sl.upd2 {b c : Nat} {w w' : World} {s : Value} {l : List Nat} (h : Sl w s l) (hu : Upd2 b c w w') (hb : Slot w b) (hc : Slot w c) : Sl w' s l := by
  refine ⟨h.small, ?_⟩
  rcases h.shape with h1 | ⟨g, cap, C, h1, h2, h3, h4⟩
  · exact Or.inl h1
  · refine Or.inr ⟨g, cap, C, h1, h2, ?_, h4⟩
    rw [hu.block g (lt_of_some h3) ?_ ?_]; exact h3
    · intro e; subst e; obtain ⟨x, y, h5⟩ := hb; rw [h3] at h5; simp at h5
    · intro e; subst e; obtain ⟨x, y, h5⟩ := hc; rw [h3] at h5; simp at h5
theorem BigAt.upd2 {b c d : Nat} {w w' : World} {n : Int} (h : BigAt w d n) (hu : Upd2 b c w w') (hb : Slot w b) (hc : Slot w c) (h1 : d ≠ b) (h2 : d ≠ c) : BigAt w' d n := by
  obtain ⟨s, h3, l, h4, h5⟩ := h
  exact ⟨s, by rw [hu.block d (lt_of_some h3) h1 h2]; exact h3, l, h4.upd2 hu hb hc, h5⟩
theorem Upd2.swap {b c : Nat} {w w' : World} (h : Upd2 b c w w') : Upd2 c b w w' := ⟨h.os, h.tape, h.output, h.size, fun k hk h1 h2 => h.block k hk h2 h1⟩
theorem Upd2.fresh {b c : Nat} {w w1 w' : World} (h0 : Below w.heap.size w w1) (hb : w.heap.size ≤ b) (h : Upd2 b c w1 w') : Upd c w w' :=
  ⟨h.os.trans h0.os, h.tape.trans h0.tape, h.output.trans h0.output, Nat.le_trans h0.size h.size, fun k hk h1 => (h.block k (Nat.lt_of_lt_of_le hk h0.size) (by omega) h1).trans (h0.block k hk)⟩
theorem sgd_div (x y : Int) : sgd (decide (x < 0) != decide (y < 0)) (x.natAbs / y.natAbs) = x.tdiv y := by
  rcases Int.lt_or_le x 0 with hx | hx <;> rcases Int.lt_or_le y 0 with hy | hy
  · rw [decide_eq_true hx, decide_eq_true hy]
    obtain ⟨a, rfl⟩ : ∃ a : Nat, x = -(a : Int) := ⟨x.natAbs, by omega⟩
    obtain ⟨b, rfl⟩ : ∃ b : Nat, y = -(b : Int) := ⟨y.natAbs, by omega⟩
    show (((-(a : Int)).natAbs / (-(b : Int)).natAbs : Nat) : Int) = _
    rw [Int.natAbs_neg, Int.natAbs_natCast, Int.natAbs_neg, Int.natAbs_natCast, Int.neg_tdiv, Int.tdiv_neg, Int.neg_neg, Int.ofNat_tdiv]
  · rw [decide_eq_true hx, decide_eq_false (Int.not_lt.2 hy)]
    obtain ⟨a, rfl⟩ : ∃ a : Nat, x = -(a : Int) := ⟨x.natAbs, by omega⟩
    obtain ⟨b, rfl⟩ : ∃ b : Nat, y = (b : Int) := ⟨y.natAbs, by omega⟩
    show -(((-(a : Int)).natAbs / (b : Int).natAbs : Nat) : Int) = _
    rw [Int.natAbs_neg, Int.natAbs_natCast, Int.natAbs_natCast, Int.neg_tdiv, Int.ofNat_tdiv]
  · rw [decide_eq_false (Int.not_lt.2 hx), decide_eq_true hy]
    obtain ⟨a, rfl⟩ : ∃ a : Nat, x = (a : Int) := ⟨x.natAbs, by omega⟩
    obtain ⟨b, rfl⟩ : ∃ b : Nat, y = -(b : Int) := ⟨y.natAbs, by omega⟩
    show -(((a : Int).natAbs / (-(b : Int)).natAbs : Nat) : Int) = _
    rw [Int.natAbs_neg, Int.natAbs_natCast, Int.natAbs_natCast, Int.tdiv_neg, Int.ofNat_tdiv]
  · rw [decide_eq_false (Int.not_lt.2 hx), decide_eq_false (Int.not_lt.2 hy)]
    obtain ⟨a, rfl⟩ : ∃ a : Nat, x = (a : Int) := ⟨x.natAbs, by omega⟩
    obtain ⟨b, rfl⟩ : ∃ b : Nat, y = (b : Int) := ⟨y.natAbs, by omega⟩
    show (((a : Int).natAbs / (b : Int).natAbs : Nat) : Int) = _
    rw [Int.natAbs_natCast, Int.natAbs_natCast, Int.ofNat_tdiv]
theorem sgd_mod (x y : Int) : sgd (decide (x < 0)) (x.natAbs % y.natAbs) = x.tmod y := by
  have h : x.tmod y = x.tmod (y.natAbs : Int) := by
    rcases Int.natAbs_eq y with e | e
    · rw [← e]
    · rw [e, Int.tmod_neg, Int.natAbs_neg]; rfl
  rw [h]
  rcases Int.lt_or_le x 0 with hx | hx
  · rw [decide_eq_true hx]
    obtain ⟨a, rfl⟩ : ∃ a : Nat, x = -(a : Int) := ⟨x.natAbs, by omega⟩
    show -(((-(a : Int)).natAbs % y.natAbs : Nat) : Int) = _
    rw [Int.natAbs_neg, Int.natAbs_natCast, Int.neg_tmod, Int.ofNat_tmod]
  · rw [decide_eq_false (Int.not_lt.2 hx)]
    obtain ⟨a, rfl⟩ : ∃ a : Nat, x = (a : Int) := ⟨x.natAbs, by omega⟩
    show (((a : Int).natAbs % y.natAbs : Nat) : Int) = _
    rw [Int.natAbs_natCast, Int.ofNat_tmod]
theorem euclid_rest {x y : Int} (hy : y ≠ 0) : (¬ x.tmod y < 0 → x / y = x.tdiv y ∧ x % y = x.tmod y) ∧ (x.tmod y < 0 → y < 0 → x / y = x.tdiv y + 1 ∧ x % y = x.tmod y - y) ∧ (x.tmod y < 0 → ¬ y < 0 → x / y = x.tdiv y - 1 ∧ x % y = x.tmod y + y) := by
  have h1 := Int.tmod_add_mul_tdiv x y
  have h2 := Int.emod_add_mul_ediv x y
  have h3 := Int.emod_nonneg x hy
  have h4 : x % y < (y.natAbs : Int) := Int.emod_lt x hy
  have h5 : (x.tmod y).natAbs < y.natAbs := by rw [Int.natAbs_tmod]; exact Nat.mod_lt _ (by omega)
  -- y (tdiv - ediv) = emod - tmod
  have h6 : y * (x.tdiv y - x / y) = x % y - x.tmod y := by rw [Int.mul_sub]; omega
  generalize x.tdiv y = T at *
  generalize x / y = E at *
  generalize x % y = e at *
  generalize x.tmod y = t at *
  have key : ∀ k : Int, e - t = y * k → T - E = k := by
    intro k hk
    rw [← h6] at hk
    exact Int.eq_of_mul_eq_mul_left hy hk
  refine ⟨fun h => ?_, fun h hn => ?_, fun h hn => ?_⟩
  · have hz : T - E = 0 := by
      have h7 : (y * (T - E)).natAbs < y.natAbs := by rw [h6]; omega
      rw [Int.natAbs_mul] at h7
      have h8 : (T - E).natAbs < 1 := Nat.lt_of_mul_lt_mul_left (a := y.natAbs) (by omega)
      omega
    have h9 : y * (T - E) = 0 := by rw [hz, Int.mul_zero]
    omega
  · have hz : T - E = -1 := by
      have h7 : (y * (T - E + 1)).natAbs < y.natAbs := by rw [Int.mul_add, h6]; omega
      rw [Int.natAbs_mul] at h7
      have h8 : (T - E + 1).natAbs < 1 := Nat.lt_of_mul_lt_mul_left (a := y.natAbs) (by omega)
      omega
    have h9 : y * (T - E) = -y := by rw [hz]; omega
    omega
  · have hz : T - E = 1 := by
      have h7 : (y * (T - E - 1)).natAbs < y.natAbs := by rw [Int.mul_sub, h6]; omega
      rw [Int.natAbs_mul] at h7
      have h8 : (T - E - 1).natAbs < 1 := Nat.lt_of_mul_lt_mul_left (a := y.natAbs) (by omega)
      omega
    have h9 : y * (T - E) = y := by rw [hz]; omega
    omega
set_option maxHeartbeats 1000000 in
theorem QuoRem_any (bz bx by' br : Nat) (x y : Int) (m n : Nat) (w : World) (hz : Slot w bz) (hr : Slot w br) (hne : bz ≠ br) (hx : BigAt w bx x) (hy : BigAt w by' y) (hy0 : y ≠ 0) (hm : x.natAbs < pw m) (hn : y.natAbs < pw n) (hm' : m ≤ 100000000) (hn' : n ≤ 100000000) :
    Calls Tryz.prog 59 #[.pointer (some ⟨bz, 0, none⟩), .pointer (some ⟨bx, 0, none⟩), .pointer (some ⟨by', 0, none⟩), .pointer (some ⟨br, 0, none⟩)] w fun e w' => e = .returned (.tuple #[.pointer (some ⟨bz, 0, none⟩), .pointer (some ⟨br, 0, none⟩)]) ∧ BigAt w' bz (x.tdiv y) ∧ BigAt w' br (x.tmod y) ∧ Upd2 bz br w w' := by
  obtain ⟨xa, xl, xc, cx0, cx1, nx, _⟩ := hx.open
  obtain ⟨ya, yl, yc, cy0, cy1, ny, _⟩ := hy.open
  have lx := hx.lt
  have ly := hy.lt
  have HZ : Hid (Slot w bz) := hz
  have HRR : Hid (Slot w br) := hr
  have NX : Hid (NS w (.slice xa xl xc) x.natAbs) := nx
  have NY : Hid (NS w (.slice ya yl yc) y.natAbs) := ny
  have HM : Hid (x.natAbs < pw m) := hm
  have HN : Hid (y.natAbs < pw n) := hn
  have HY0 : Hid (0 < y.natAbs) := by show _ < _; omega
  clear hx hy hz hr nx ny hm hn hy0
  obtain ⟨p, hp⟩ : ∃ p, p = decide (x < 0) := ⟨_, rfl⟩
  obtain ⟨q, hq⟩ : ∃ q, q = decide (y < 0) := ⟨_, rfl⟩
  rw [← hp] at cx0
  rw [← hq] at cy0
  have HD : Hid (sgd (p != q) (x.natAbs / y.natAbs) = x.tdiv y) := by show _ = _; rw [hp, hq, sgd_div]
  have HMD : Hid (sgd p (x.natAbs % y.natAbs) = x.tmod y) := by show _ = _; rw [hp, sgd_mod]
  clear hp hq
  go_enter Tryz.func59, Tryz.ntmps59
  go_wp2
  go_quiet (fail)
  generalize hw1 : w.drewN nq = w1
  have e1 : w1.heap.size = w.heap.size := by rw [← hw1]; rfl
  have cx : w1.cell? ⟨bx, 1, none⟩ = some (.slice xa xl xc) := by rw [← hw1]; exact cx1
  have cy : w1.cell? ⟨by', 1, none⟩ = some (.slice ya yl yc) := by rw [← hw1]; exact cy1
  have NX1 : Hid (NS w1 (.slice xa xl xc) x.natAbs) := by rw [← hw1]; exact NX.out.drewN
  have NY1 : Hid (NS w1 (.slice ya yl yc) y.natAbs) := by rw [← hw1]; exact NY.out.drewN
  have HZ1 : Hid (Slot w1 bz) := by rw [← hw1]; exact HZ.out
  have HRR1 : Hid (Slot w1 br) := by rw [← hw1]; exact HRR.out
  have HU1 : Hid (Upd2 bz br w w1) := by rw [← hw1]; exact (Upd2.refl bz br w).drewN
  clear hw1 NX NY HZ HRR cx0 cx1 cy0 cy1
  go_wp2_with fail
  refine wp_region_G (fun w' => w'.cell? ⟨bx, 1, none⟩ = some (.slice xa xl xc) ∧ w'.cell? ⟨by', 1, none⟩ = some (.slice ya yl yc)) 13 (by kernel_rfl) ⟨cx, cy⟩ (fun hHeld => ?_)
  refine wpAnyG_take (i := 0) (v := ?v0) rfl (by kernel_rfl) (fun _ _ _ h => h) (Or.inl ⟨by rfl, ?y0⟩) hHeld ?r0
  case y0 => (intro wS hSw; obtain ⟨s1, s2⟩ := hSw; go_simp; try with_reducible rfl)
  try simp only [Act.put, List.setIfInBounds_toArray, List.set_cons_zero, List.set_cons_succ]
  refine wpAnyG_take (i := 1) (v := ?v1) rfl (by kernel_rfl) (fun _ _ _ h => h) (Or.inl ⟨by rfl, ?y1⟩) hHeld ?r1
  case y1 => (intro wS hSw; obtain ⟨s1, s2⟩ := hSw; go_simp; try with_reducible rfl)
  try simp only [Act.put, List.setIfInBounds_toArray, List.set_cons_zero, List.set_cons_succ]
  refine wpAnyG_take (i := 2) (v := ?v2) rfl (by kernel_rfl) (fun _ _ _ h => h) (Or.inl ⟨by rfl, ?y2⟩) hHeld ?r2
  case y2 => (intro wS hSw; obtain ⟨s1, s2⟩ := hSw; go_simp; try with_reducible rfl)
  try simp only [Act.put, List.setIfInBounds_toArray, List.set_cons_zero, List.set_cons_succ]
  refine wpAnyG_take (i := 3) (v := ?v3) rfl (by kernel_rfl) (fun _ _ _ h => h) (Or.inl ⟨by rfl, ?y3⟩) hHeld ?r3
  case y3 => (intro wS hSw; obtain ⟨s1, s2⟩ := hSw; go_simp; try with_reducible rfl)
  try simp only [Act.put, List.setIfInBounds_toArray, List.set_cons_zero, List.set_cons_succ]
  refine wpAnyG_take (i := 4) (v := ?v4) rfl (by kernel_rfl) (fun _ _ _ h => h) (Or.inl ⟨by rfl, ?y4⟩) hHeld ?r4
  case y4 => (intro wS hSw; obtain ⟨s1, s2⟩ := hSw; go_simp; try with_reducible rfl)
  try simp only [Act.put, List.setIfInBounds_toArray, List.set_cons_zero, List.set_cons_succ]
  refine wpAnyG_take (i := 5) (v := ?v5) rfl (by kernel_rfl) (fun _ _ _ h => h) (Or.inl ⟨by rfl, ?y5⟩) hHeld ?r5
  case y5 => (intro wS hSw; obtain ⟨s1, s2⟩ := hSw; go_simp; try with_reducible rfl)
  try simp only [Act.put, List.setIfInBounds_toArray, List.set_cons_zero, List.set_cons_succ]
  refine wpAnyG_take (i := 6) (v := ?v6) rfl (by kernel_rfl) (fun _ _ _ h => h) (Or.inl ⟨by rfl, ?y6⟩) hHeld ?r6
  case y6 => (intro wS hSw; obtain ⟨s1, s2⟩ := hSw; go_simp; try with_reducible rfl)
  try simp only [Act.put, List.setIfInBounds_toArray, List.set_cons_zero, List.set_cons_succ]
  refine wpAnyG_take (i := 7) (v := ?v7) rfl (by kernel_rfl) (fun _ _ _ h => h) (Or.inl ⟨by rfl, ?y7⟩) hHeld ?r7
  case y7 => (intro wS hSw; obtain ⟨s1, s2⟩ := hSw; go_simp; try with_reducible rfl)
  try simp only [Act.put, List.setIfInBounds_toArray, List.set_cons_zero, List.set_cons_succ]
  refine wpAnyG_one (i := 8) rfl (by kernel_rfl) (fun K hK => ?_)
  go_simp
  refine (div_any _ _ x.natAbs y.natAbs m n _ NX1.out.drew NY1.out.drew HM.out HN.out hm' hn' HY0.out).mono ?_
  rintro e w2 ⟨r1, r2, rfl, hq1, hq2, hb⟩
  obtain ⟨qa, ql, qc, rfl, _⟩ := hq1.shape
  obtain ⟨ta, tl, tc, rfl, _⟩ := hq2.shape
  clear hHeld
  have hHeld : w2.cell? ⟨bx, 1, none⟩ = some (.slice xa xl xc) ∧ w2.cell? ⟨by', 1, none⟩ = some (.slice ya yl yc) := ⟨(hb.cell (p := ⟨bx, 1, none⟩) (show bx < w1.heap.size by omega)).trans cx, (hb.cell (p := ⟨by', 1, none⟩) (show by' < w1.heap.size by omega)).trans cy⟩
  refine hK.out _ _ hHeld ?_
  clear hK K
  try simp only [Act.put, List.setIfInBounds_toArray, List.set_cons_zero, List.set_cons_succ]
  refine wpAnyG_one (i := 9) rfl (by kernel_rfl) (fun K hK => ?_)
  go_simp
  refine hK.out _ _ hHeld ?_
  clear hK K
  try simp only [Act.put, List.setIfInBounds_toArray, List.set_cons_zero, List.set_cons_succ]
  refine wpAnyG_take (i := 10) (v := ?v10) rfl (by kernel_rfl) (fun _ _ _ h => h) (Or.inl ⟨by rfl, ?y10⟩) hHeld ?r10
  case y10 => (intro wS hSw; obtain ⟨s1, s2⟩ := hSw; go_simp; try with_reducible rfl)
  try simp only [Act.put, List.setIfInBounds_toArray, List.set_cons_zero, List.set_cons_succ]
  refine wpAnyG_take (i := 11) (v := ?v11) rfl (by kernel_rfl) (fun _ _ _ h => h) (Or.inl ⟨by rfl, ?y11⟩) hHeld ?r11
  case y11 => (intro wS hSw; obtain ⟨s1, s2⟩ := hSw; go_simp; try with_reducible rfl)
  try simp only [Act.put, List.setIfInBounds_toArray, List.set_cons_zero, List.set_cons_succ]
  refine wpAnyG_one (i := 12) rfl (by kernel_rfl) (fun K hK => ?_)
  go_simp
  refine hK.out _ _ hHeld ?_
  clear hK K
  try simp only [Act.put, List.setIfInBounds_toArray, List.set_cons_zero, List.set_cons_succ]
  refine wpAnyG_last (i := 13) rfl (by kernel_rfl) (by kernel_rfl) (fun K hK => ?_)
  go_simp
  refine hK.out _ _ ?_
  clear hK K
  try simp only [Act.put, List.setIfInBounds_toArray, List.set_cons_zero, List.set_cons_succ]
  refine wpAnyG_done (by kernel_rfl) ?_ _
  have HQ1 : Hid (NS w2 (.slice qa ql qc) (x.natAbs / y.natAbs)) := hq1
  have HQ2 : Hid (NS w2 (.slice ta tl tc) (x.natAbs % y.natAbs)) := hq2
  have HZ2 : Hid (Slot w2 bz) := HZ1.out.drew.below hb (Nat.le_refl _)
  have HRR2 : Hid (Slot w2 br) := HRR1.out.drew.below hb (Nat.le_refl _)
  have HU2 : Hid (Upd2 bz br w w2) := HU1.out.trans (((Upd.refl bz w1).drew.two br).trans (Upd2.of_below hb))
  clear hHeld hq1 hq2 hb cx cy
  go_wp2_with fail
  refine (give_any bz (p != q) _ (x.natAbs / y.natAbs) _ HZ2.out HQ1.out).mono ?_
  rw [HD.out]
  rintro e w3 ⟨rfl, hbig, hu⟩
  have HB3 : Hid (BigAt w3 bz (x.tdiv y)) := hbig
  have HU3 : Hid (Upd bz w2 w3) := hu
  clear hbig hu
  go_wp2_with fail
  refine (give_any br p _ (x.natAbs % y.natAbs) _ (HRR2.out.upd HU3.out (Ne.symm hne)) (HQ2.out.upd HU3.out HZ2.out)).mono ?_
  rw [HMD.out]
  rintro e w4 ⟨rfl, hbig, hu⟩
  have HB4 : Hid (BigAt w4 br (x.tmod y)) := hbig
  have HU4 : Hid (Upd br w3 w4) := hu
  clear hbig hu
  go_wp2
  go_ret2
  exact ⟨rfl, HB3.out.upd HU4.out (HRR2.out.upd HU3.out (Ne.symm hne)) hne, HB4.out, (HU2.out.trans (HU3.out.two br)).trans (HU4.out.two' bz)⟩
set_option maxHeartbeats 1000000 in
theorem DivMod_any (bz bx by' br : Nat) (x y : Int) (m n : Nat) (w : World) (hz : Slot w bz) (hr : Slot w br) (hne : bz ≠ br) (hx : BigAt w bx x) (hy : BigAt w by' y) (hy0 : y ≠ 0) (hm : x.natAbs < pw m) (hn : y.natAbs < pw n) (hm' : m ≤ 100000000) (hn' : n ≤ 100000000) :
    Calls Tryz.prog 67 #[.pointer (some ⟨bz, 0, none⟩), .pointer (some ⟨bx, 0, none⟩), .pointer (some ⟨by', 0, none⟩), .pointer (some ⟨br, 0, none⟩)] w fun e w' => e = .returned (.tuple #[.pointer (some ⟨bz, 0, none⟩), .pointer (some ⟨br, 0, none⟩)]) ∧ BigAt w' bz (x / y) ∧ BigAt w' br (x % y) ∧ Upd2 bz br w w' := by
  have lz := hz.lt
  have lr := hr.lt
  have HZ : Hid (Slot w bz) := hz
  have HRR : Hid (Slot w br) := hr
  have HX : Hid (BigAt w bx x) := hx
  have HY : Hid (BigAt w by' y) := hy
  have HM : Hid (x.natAbs < pw m) := hm
  have HN : Hid (y.natAbs < pw n) := hn
  have HE := euclid_rest (x := x) hy0
  have HE' : Hid ((¬ x.tmod y < 0 → x / y = x.tdiv y ∧ x % y = x.tmod y) ∧ (x.tmod y < 0 → y < 0 → x / y = x.tdiv y + 1 ∧ x % y = x.tmod y - y) ∧ (x.tmod y < 0 → ¬ y < 0 → x / y = x.tdiv y - 1 ∧ x % y = x.tmod y + y)) := HE
  have HB1 : Hid ((x.tdiv y).natAbs < pw m) := by
    show _ < _
    rw [Int.natAbs_tdiv]
    exact Nat.lt_of_le_of_lt (Nat.div_le_self ..) hm
  have HB2 : Hid ((x.tmod y).natAbs < pw n) := by
    show _ < _
    rw [Int.natAbs_tmod]
    exact Nat.lt_trans (Nat.mod_lt _ (by omega)) hn
  have HY0 : Hid (y ≠ 0) := hy0
  clear hx hy hz hr hm hn hy0 HE
  go_enter Tryz.func67, Tryz.ntmps67
  go_wp2_with fail
  refine (Set_any w.heap.size by' y n _ (slot_new w _ _) (HY.out.below (Below.alloc_self' w _) (Nat.le_refl _)) HN.out hn').mono ?_
  rintro e w1 ⟨rfl, hbig, hu⟩
  have hb1 : Below w.heap.size w w1 := (Below.alloc_self' w _).trans (hu.below (by simp) (Nat.le_refl _))
  have D1 : Hid (BigAt w1 w.heap.size y) := hbig
  have X1 : Hid (BigAt w1 bx x) := HX.out.below hb1 (Nat.le_refl _)
  have Y1 : Hid (BigAt w1 by' y) := HY.out.below hb1 (Nat.le_refl _)
  have Z1 : Hid (Slot w1 bz) := HZ.out.below hb1 (Nat.le_refl _)
  have R1 : Hid (Slot w1 br) := HRR.out.below hb1 (Nat.le_refl _)
  have U1 : Hid (Upd2 bz br w w1) := Upd2.of_below hb1
  clear hbig hu hb1 HX HY HZ HRR
  go_wp2_with fail
  refine (QuoRem_any bz bx by' br x y m n w1 Z1.out R1.out hne X1.out Y1.out HY0.out HM.out HN.out hm' hn').mono ?_
  rintro e w2 ⟨rfl, hb2, hb3, hu2⟩
  have D2 : Hid (BigAt w2 w.heap.size y) := D1.out.upd2 hu2 Z1.out R1.out (by omega) (by omega)
  have Z2 : Hid (BigAt w2 bz (x.tdiv y)) := hb2
  have R2 : Hid (BigAt w2 br (x.tmod y)) := hb3
  have U2 : Hid (Upd2 bz br w w2) := U1.out.trans hu2
  obtain ⟨ra, rl, rc, cr0, cr1, nr, _⟩ := hb3.open
  obtain ⟨da, dl, dc, cd0, cd1, nd, _⟩ := D2.out.open
  clear hb2 hb3 hu2 D1 X1 Y1 Z1 R1 U1 nr nd cr1 cd1
  by_cases hneg : x.tmod y < 0
  · rw [decide_eq_true hneg] at cr0
    by_cases hyn : y < 0
    · rw [decide_eq_true hyn] at cd0
      go_wp2_with fail
      refine (NewInt_any 1 w2 (by omega) (by omega)).mono ?_
      rintro e w3 ⟨b3, rfl, hb3, h1, k3⟩
      have D3 : Hid (BigAt w3 w.heap.size y) := D2.out.below k3 (Nat.le_refl _)
      have Z3 : Hid (BigAt w3 bz (x.tdiv y)) := Z2.out.below k3 (Nat.le_refl _)
      have R3 : Hid (BigAt w3 br (x.tmod y)) := R2.out.below k3 (Nat.le_refl _)
      have U3 : Hid (Upd2 bz br w w3) := U2.out.trans (Upd2.of_below k3)
      have O3 : Hid (BigAt w3 b3 1) := h1
      clear h1 k3 D2 Z2 R2 U2
      go_wp2_with fail
      refine (Add_any bz bz b3 (x.tdiv y) 1 m 1 w3 Z3.out.slot Z3.out O3.out HB1.out (by decide) hm' (by omega)).mono ?_
      rintro e w4 ⟨rfl, h4, k4⟩
      have D4 : Hid (BigAt w4 w.heap.size y) := D3.out.upd k4 Z3.out.slot (by omega)
      have R4 : Hid (BigAt w4 br (x.tmod y)) := R3.out.upd k4 Z3.out.slot (Ne.symm hne)
      have Z4 : Hid (BigAt w4 bz (x.tdiv y + 1)) := h4
      have U4 : Hid (Upd2 bz br w w4) := U3.out.trans (k4.two br)
      clear h4 k4 D3 Z3 R3 U3 O3
      go_wp2_with fail
      refine (Sub_any br br w.heap.size (x.tmod y) y n n w4 R4.out.slot R4.out D4.out HB2.out HN.out hn' hn').mono ?_
      rintro e w5 ⟨rfl, h5, k5⟩
      have Z5 : Hid (BigAt w5 bz (x.tdiv y + 1)) := Z4.out.upd k5 R4.out.slot hne
      have U5 : Hid (Upd2 bz br w w5) := U4.out.trans (k5.two' bz)
      have R5 : Hid (BigAt w5 br (x.tmod y - y)) := h5
      obtain ⟨f1, f2⟩ := HE'.out.2.1 hneg hyn
      clear h5 k5
      go_wp2
      go_ret2
      rw [f1, f2]
      exact ⟨rfl, Z5.out, R5.out, U5.out⟩
    · rw [decide_eq_false hyn] at cd0
      go_wp2_with fail
      refine (NewInt_any 1 w2 (by omega) (by omega)).mono ?_
      rintro e w3 ⟨b3, rfl, hb3, h1, k3⟩
      have D3 : Hid (BigAt w3 w.heap.size y) := D2.out.below k3 (Nat.le_refl _)
      have Z3 : Hid (BigAt w3 bz (x.tdiv y)) := Z2.out.below k3 (Nat.le_refl _)
      have R3 : Hid (BigAt w3 br (x.tmod y)) := R2.out.below k3 (Nat.le_refl _)
      have U3 : Hid (Upd2 bz br w w3) := U2.out.trans (Upd2.of_below k3)
      have O3 : Hid (BigAt w3 b3 1) := h1
      clear h1 k3 D2 Z2 R2 U2
      go_wp2_with fail
      refine (Sub_any bz bz b3 (x.tdiv y) 1 m 1 w3 Z3.out.slot Z3.out O3.out HB1.out (by decide) hm' (by omega)).mono ?_
      rintro e w4 ⟨rfl, h4, k4⟩
      have D4 : Hid (BigAt w4 w.heap.size y) := D3.out.upd k4 Z3.out.slot (by omega)
      have R4 : Hid (BigAt w4 br (x.tmod y)) := R3.out.upd k4 Z3.out.slot (Ne.symm hne)
      have Z4 : Hid (BigAt w4 bz (x.tdiv y - 1)) := h4
      have U4 : Hid (Upd2 bz br w w4) := U3.out.trans (k4.two br)
      clear h4 k4 D3 Z3 R3 U3 O3
      go_wp2_with fail
      refine (Add_any br br w.heap.size (x.tmod y) y n n w4 R4.out.slot R4.out D4.out HB2.out HN.out hn' hn').mono ?_
      rintro e w5 ⟨rfl, h5, k5⟩
      have Z5 : Hid (BigAt w5 bz (x.tdiv y - 1)) := Z4.out.upd k5 R4.out.slot hne
      have U5 : Hid (Upd2 bz br w w5) := U4.out.trans (k5.two' bz)
      have R5 : Hid (BigAt w5 br (x.tmod y + y)) := h5
      obtain ⟨f1, f2⟩ := HE'.out.2.2 hneg (by omega)
      clear h5 k5
      go_wp2
      go_ret2
      rw [f1, f2]
      exact ⟨rfl, Z5.out, R5.out, U5.out⟩
  · rw [decide_eq_false hneg] at cr0
    obtain ⟨e1, e2⟩ := HE'.out.1 (Int.not_lt.1 hneg)
    go_wp2
    go_ret2
    rw [e1, e2]
    exact ⟨rfl, Z2.out, R2.out, U2.out⟩
end Go.Proofs.YtcnfhndejkngkaaGreatDoor
