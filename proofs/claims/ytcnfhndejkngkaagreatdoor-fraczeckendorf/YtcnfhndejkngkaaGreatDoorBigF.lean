/- Contracts of numbers of any length: sum, Mul, Add, Sub, Cmp. -/
import Derived.Test.YtcnfhndejkngkaaGreatDoorJzM
import Derived.Test.YtcnfhndejkngkaaGreatDoorJzH
set_option linter.unusedSimpArgs false
set_option linter.unusedVariables false
set_option maxRecDepth 100000
namespace Go.Proofs.YtcnfhndejkngkaaGreatDoor
open Go.RowKit

theorem NS.drew {w : World} {s : Value} {n : Nat} (h : NS w s n) : NS w.drew s n := h.below (Below.refl w.heap.size w).drew (Nat.le_refl _)
theorem Slot.drew {w : World} {b : Nat} (h : Slot w b) : Slot w.drew b := h
theorem BigAt.drewN {w : World} {b n : Nat} {x : Int} (h : BigAt w b x) : BigAt (w.drewN n) b x := h.below (below_drewN' (Below.refl w.heap.size w)) (Nat.le_refl _)
theorem NS.drewN {w : World} {s : Value} {q n : Nat} (h : NS w s n) : NS (w.drewN q) s n := h.below (below_drewN' (Below.refl w.heap.size w)) (Nat.le_refl _)

/-- A struct opened: its cells, and that its slice holds the number. -/
theorem BigAt.open {w : World} {b : Nat} {n : Int} (h : BigAt w b n) : ∃ aa len cap, w.cell? ⟨b, 0, none⟩ = some (.bool (decide (n < 0))) ∧ w.cell? ⟨b, 1, none⟩ = some (.slice aa len cap) ∧ NS w (.slice aa len cap) n.natAbs ∧ (0 < len ↔ 0 < n.natAbs) := by
  obtain ⟨s, h1, h2⟩ := h
  obtain ⟨aa, len, cap, rfl, hl⟩ := h2.shape
  exact ⟨aa, len, cap, by simp [World.cell?, h1], by simp [World.cell?, h1], h2, hl⟩

theorem sgd_self (x : Int) : sgd (decide (x < 0)) x.natAbs = x := by unfold sgd; by_cases h : x < 0 <;> simp [h] <;> omega
theorem sgd_mul (p q : Bool) (a b : Nat) : sgd (p != q) (a * b) = sgd p a * sgd q b := by
  cases p <;> cases q <;> simp [sgd, Int.neg_mul, Int.mul_neg]
theorem sgd_not (q : Bool) (b : Nat) : sgd (!q) b = -sgd q b := by cases q <;> simp [sgd]

set_option maxHeartbeats 1000000 in
theorem Mul_any (bz bx by' : Nat) (x y : Int) (m n : Nat) (w : World) (hz : Slot w bz) (hx : BigAt w bx x) (hy : BigAt w by' y) (hm : x.natAbs < pw m) (hn : y.natAbs < pw n) (hm' : m ≤ 100000000) (hn' : n ≤ 100000000) :
    Calls Tryz.prog 41 #[.pointer (some ⟨bz, 0, none⟩), .pointer (some ⟨bx, 0, none⟩), .pointer (some ⟨by', 0, none⟩)] w fun e w' => e = .returned (.pointer (some ⟨bz, 0, none⟩)) ∧ BigAt w' bz (x * y) ∧ Upd bz w w' := by
  obtain ⟨xa, xl, xc, cx0, cx1, nx, _⟩ := hx.open
  obtain ⟨ya, yl, yc, cy0, cy1, ny, _⟩ := hy.open
  have lx := hx.lt
  have ly := hy.lt
  have HZ : Hid (Slot w bz) := hz
  have NX : Hid (NS w (.slice xa xl xc) x.natAbs) := nx
  have NY : Hid (NS w (.slice ya yl yc) y.natAbs) := ny
  have HM : Hid (x.natAbs < pw m) := hm
  have HN : Hid (y.natAbs < pw n) := hn
  clear hx hy hz nx ny hm hn
  obtain ⟨p, hp⟩ : ∃ p, p = decide (x < 0) := ⟨_, rfl⟩
  obtain ⟨q, hq⟩ : ∃ q, q = decide (y < 0) := ⟨_, rfl⟩
  rw [← hp] at cx0
  rw [← hq] at cy0
  have HXY : Hid (sgd (p != q) (x.natAbs * y.natAbs) = x * y) := by show _ = _; rw [sgd_mul, hp, hq, sgd_self, sgd_self]
  clear hp hq
  go_enter Tryz.func41, Tryz.ntmps41
  go_wp2
  refine wp_region_G (fun w' => w'.cell? ⟨bx, 0, none⟩ = some (.bool p) ∧ w'.cell? ⟨bx, 1, none⟩ = some (.slice xa xl xc) ∧ w'.cell? ⟨by', 0, none⟩ = some (.bool q) ∧ w'.cell? ⟨by', 1, none⟩ = some (.slice ya yl yc)) 19 (by kernel_rfl) ⟨cx0, cx1, cy0, cy1⟩ (fun hHeld => ?_)
  refine wpAnyG_take (i := 0) (v := ?v0) rfl (by kernel_rfl) (fun _ _ _ h => h) (Or.inl ⟨by rfl, ?y0⟩) hHeld ?r0
  case y0 => (intro wS hSw; obtain ⟨s1, s2, s3, s4⟩ := hSw; go_simp; try with_reducible rfl)
  try simp only [Act.put, List.setIfInBounds_toArray, List.set_cons_zero, List.set_cons_succ]
  refine wpAnyG_take (i := 1) (v := ?v1) rfl (by kernel_rfl) (fun _ _ _ h => h) (Or.inl ⟨by rfl, ?y1⟩) hHeld ?r1
  case y1 => (intro wS hSw; obtain ⟨s1, s2, s3, s4⟩ := hSw; go_simp; try with_reducible rfl)
  try simp only [Act.put, List.setIfInBounds_toArray, List.set_cons_zero, List.set_cons_succ]
  refine wpAnyG_take (i := 2) (v := ?v2) rfl (by kernel_rfl) (fun _ _ _ h => h) (Or.inl ⟨by rfl, ?y2⟩) hHeld ?r2
  case y2 => (intro wS hSw; obtain ⟨s1, s2, s3, s4⟩ := hSw; go_simp; try with_reducible rfl)
  try simp only [Act.put, List.setIfInBounds_toArray, List.set_cons_zero, List.set_cons_succ]
  refine wpAnyG_take (i := 3) (v := ?v3) rfl (by kernel_rfl) (fun _ _ _ h => h) (Or.inl ⟨by rfl, ?y3⟩) hHeld ?r3
  case y3 => (intro wS hSw; obtain ⟨s1, s2, s3, s4⟩ := hSw; go_simp; try with_reducible rfl)
  try simp only [Act.put, List.setIfInBounds_toArray, List.set_cons_zero, List.set_cons_succ]
  refine wpAnyG_take (i := 4) (v := ?v4) rfl (by kernel_rfl) (fun _ _ _ h => h) (Or.inl ⟨by rfl, ?y4⟩) hHeld ?r4
  case y4 => (intro wS hSw; obtain ⟨s1, s2, s3, s4⟩ := hSw; go_simp; try with_reducible rfl)
  try simp only [Act.put, List.setIfInBounds_toArray, List.set_cons_zero, List.set_cons_succ]
  refine wpAnyG_take (i := 5) (v := ?v5) rfl (by kernel_rfl) (fun _ _ _ h => h) (Or.inl ⟨by rfl, ?y5⟩) hHeld ?r5
  case y5 => (intro wS hSw; obtain ⟨s1, s2, s3, s4⟩ := hSw; go_simp; try with_reducible rfl)
  try simp only [Act.put, List.setIfInBounds_toArray, List.set_cons_zero, List.set_cons_succ]
  refine wpAnyG_take (i := 6) (v := ?v6) rfl (by kernel_rfl) (fun _ _ _ h => h) (Or.inl ⟨by rfl, ?y6⟩) hHeld ?r6
  case y6 => (intro wS hSw; obtain ⟨s1, s2, s3, s4⟩ := hSw; go_simp; try with_reducible rfl)
  try simp only [Act.put, List.setIfInBounds_toArray, List.set_cons_zero, List.set_cons_succ]
  refine wpAnyG_take (i := 7) (v := ?v7) rfl (by kernel_rfl) (fun _ _ _ h => h) (Or.inl ⟨by rfl, ?y7⟩) hHeld ?r7
  case y7 => (intro wS hSw; obtain ⟨s1, s2, s3, s4⟩ := hSw; go_simp; try with_reducible rfl)
  try simp only [Act.put, List.setIfInBounds_toArray, List.set_cons_zero, List.set_cons_succ]
  refine wpAnyG_take (i := 8) (v := ?v8) rfl (by kernel_rfl) (fun _ _ _ h => h) (Or.inl ⟨by rfl, ?y8⟩) hHeld ?r8
  case y8 => (intro wS hSw; obtain ⟨s1, s2, s3, s4⟩ := hSw; go_simp; try with_reducible rfl)
  try simp only [Act.put, List.setIfInBounds_toArray, List.set_cons_zero, List.set_cons_succ]
  refine wpAnyG_take (i := 9) (v := ?v9) rfl (by kernel_rfl) (fun _ _ _ h => h) (Or.inl ⟨by rfl, ?y9⟩) hHeld ?r9
  case y9 => (intro wS hSw; obtain ⟨s1, s2, s3, s4⟩ := hSw; go_simp; try with_reducible rfl)
  try simp only [Act.put, List.setIfInBounds_toArray, List.set_cons_zero, List.set_cons_succ]
  refine wpAnyG_take (i := 10) (v := ?v10) rfl (by kernel_rfl) (fun _ _ _ h => h) (Or.inl ⟨by rfl, ?y10⟩) hHeld ?r10
  case y10 => (intro wS hSw; obtain ⟨s1, s2, s3, s4⟩ := hSw; go_simp; try with_reducible rfl)
  try simp only [Act.put, List.setIfInBounds_toArray, List.set_cons_zero, List.set_cons_succ]
  refine wpAnyG_take (i := 11) (v := ?v11) rfl (by kernel_rfl) (fun _ _ _ h => h) (Or.inl ⟨by rfl, ?y11⟩) hHeld ?r11
  case y11 => (intro wS hSw; obtain ⟨s1, s2, s3, s4⟩ := hSw; go_simp; try with_reducible rfl)
  try simp only [Act.put, List.setIfInBounds_toArray, List.set_cons_zero, List.set_cons_succ]
  refine wpAnyG_take (i := 12) (v := ?v12) rfl (by kernel_rfl) (fun _ _ _ h => h) (Or.inl ⟨by rfl, ?y12⟩) hHeld ?r12
  case y12 => (intro wS hSw; obtain ⟨s1, s2, s3, s4⟩ := hSw; go_simp; try with_reducible rfl)
  try simp only [Act.put, List.setIfInBounds_toArray, List.set_cons_zero, List.set_cons_succ]
  refine wpAnyG_take (i := 13) (v := ?v13) rfl (by kernel_rfl) (fun _ _ _ h => h) (Or.inl ⟨by rfl, ?y13⟩) hHeld ?r13
  case y13 => (intro wS hSw; obtain ⟨s1, s2, s3, s4⟩ := hSw; go_simp; try with_reducible rfl)
  try simp only [Act.put, List.setIfInBounds_toArray, List.set_cons_zero, List.set_cons_succ]
  refine wpAnyG_take (i := 14) (v := ?v14) rfl (by kernel_rfl) (fun _ _ _ h => h) (Or.inl ⟨by rfl, ?y14⟩) hHeld ?r14
  case y14 => (intro wS hSw; obtain ⟨s1, s2, s3, s4⟩ := hSw; go_simp; try with_reducible rfl)
  try simp only [Act.put, List.setIfInBounds_toArray, List.set_cons_zero, List.set_cons_succ]
  refine wpAnyG_take (i := 15) (v := ?v15) rfl (by kernel_rfl) (fun _ _ _ h => h) (Or.inl ⟨by rfl, ?y15⟩) hHeld ?r15
  case y15 => (intro wS hSw; obtain ⟨s1, s2, s3, s4⟩ := hSw; go_simp; try with_reducible rfl)
  try simp only [Act.put, List.setIfInBounds_toArray, List.set_cons_zero, List.set_cons_succ]
  refine wpAnyG_take (i := 16) (v := ?v16) rfl (by kernel_rfl) (fun _ _ _ h => h) (Or.inl ⟨by rfl, ?y16⟩) hHeld ?r16
  case y16 => (intro wS hSw; obtain ⟨s1, s2, s3, s4⟩ := hSw; go_simp; try with_reducible rfl)
  try simp only [Act.put, List.setIfInBounds_toArray, List.set_cons_zero, List.set_cons_succ]
  refine wpAnyG_take (i := 17) (v := ?v17) rfl (by kernel_rfl) (fun _ _ _ h => h) (Or.inl ⟨by rfl, ?y17⟩) hHeld ?r17
  case y17 => (intro wS hSw; obtain ⟨s1, s2, s3, s4⟩ := hSw; go_simp; try with_reducible rfl)
  try simp only [Act.put, List.setIfInBounds_toArray, List.set_cons_zero, List.set_cons_succ]
  refine wpAnyG_one (i := 18) rfl (by kernel_rfl) (fun K hK => ?_)
  go_simp
  refine (mul_any _ _ x.natAbs y.natAbs m n _ NX.out.drew NY.out.drew HM.out HN.out hm' hn').mono ?_
  rintro e w1 ⟨r, rfl, hr, hb⟩
  refine hK.out _ _ ⟨(hb.cell lx).trans cx0, (hb.cell lx).trans cx1, (hb.cell ly).trans cy0, (hb.cell ly).trans cy1⟩ ?_
  clear hK K
  try simp only [Act.put, List.setIfInBounds_toArray, List.set_cons_zero, List.set_cons_succ]
  refine wpAnyG_last (i := 19) rfl (by kernel_rfl) (by kernel_rfl) (fun K hK => ?_)
  go_simp
  refine (give_any bz (p != q) r (x.natAbs * y.natAbs) w1 (HZ.out.drew.below hb (Nat.le_refl _)) hr).mono ?_
  rw [HXY.out]
  rintro e w2 ⟨rfl, hbig, hu⟩
  refine hK.out _ _ ?_
  clear hK K
  try simp only [Act.put, List.setIfInBounds_toArray, List.set_cons_zero, List.set_cons_succ]
  refine wpAnyG_last (i := 20) rfl (by kernel_rfl) (by kernel_rfl) (fun K hK => ?_)
  go_simp
  refine hK.out _ _ ?_
  clear hK K
  try simp only [Act.put, List.setIfInBounds_toArray, List.set_cons_zero, List.set_cons_succ]
  refine wpAnyG_done (by kernel_rfl) ?_ _
  go_wp2
  go_ret
  exact ⟨rfl, hbig, (Upd.refl bz w).drew.trans (Upd.then_below hb hu)⟩

/-- A sum of two signed numbers. -/
theorem sum_any (p q : Bool) (s t : Value) (a b m n : Nat) (w : World) (ha : NS w s a) (hb : NS w t b) (hm : a < pw m) (hn : b < pw n) (hm' : m ≤ 100000000) (hn' : n ≤ 100000000) :
    Calls Tryz.prog 56 #[.bool p, s, .bool q, t] w fun e w' => ∃ o r c, e = .returned (.tuple #[.bool o, r]) ∧ NS w' r c ∧ sgd o c = sgd p a + sgd q b ∧ Below w.heap.size w w' := by
  obtain ⟨xa, xl, xc, rfl, _⟩ := ha.shape
  obtain ⟨ya, yl, yc, rfl, _⟩ := hb.shape
  have HA : Hid (NS w (.slice xa xl xc) a) := ha
  have HB : Hid (NS w (.slice ya yl yc) b) := hb
  have HM : Hid (a < pw m) := hm
  have HN : Hid (b < pw n) := hn
  clear ha hb hm hn
  by_cases hpq : p = q
  · subst hpq
    go_enter Tryz.func56, Tryz.ntmps56
    go_wp2_with fail
    refine (add_any _ _ a b m n w HA.out HB.out HM.out HN.out hm' hn').mono ?_
    rintro e w1 ⟨r, rfl, hr, hbl⟩
    go_wp2
    go_ret2
    exact ⟨p, r, a + b, rfl, hr, by cases p <;> simp [sgd] <;> omega, hbl⟩
  · have h0 : (p == q) = false := by simpa using hpq
    go_enter Tryz.func56, Tryz.ntmps56
    go_wp2_with fail
    refine (cmp_any _ _ a b m n w HA.out HB.out HM.out HN.out hm' hn').mono ?_
    rintro e w1 ⟨rfl, nq, rfl⟩
    by_cases hab : b ≤ a
    · have hc : 0 ≤ cmpN a b := by unfold cmpN; split <;> (try split) <;> omega
      go_wp2_with fail
      refine (sub_any _ _ a b m _ HA.out.drewN HB.out.drewN hab HM.out hm').mono ?_
      rintro e w1 ⟨r, rfl, hr, hbl⟩
      go_wp2
      go_ret2
      exact ⟨p, r, a - b, rfl, hr, by cases p <;> cases q <;> simp_all [sgd] <;> omega, (below_drewN' (Below.refl _ _)).trans hbl⟩
    · have hc : cmpN a b < 0 := by unfold cmpN; split <;> (try split) <;> omega
      go_wp2_with fail
      refine (sub_any _ _ b a n _ HB.out.drewN HA.out.drewN (by omega) HN.out hn').mono ?_
      rintro e w1 ⟨r, rfl, hr, hbl⟩
      go_wp2
      go_ret2
      exact ⟨q, r, b - a, rfl, hr, by cases p <;> cases q <;> simp_all [sgd] <;> omega, (below_drewN' (Below.refl _ _)).trans hbl⟩

end Go.Proofs.YtcnfhndejkngkaaGreatDoor
