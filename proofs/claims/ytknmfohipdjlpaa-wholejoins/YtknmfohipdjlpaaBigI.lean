/- Contracts of numbers of any length: Set, Neg, Abs. -/
import Derived.Test.YtknmfohipdjlpaaBigH
set_option linter.unusedSimpArgs false
set_option linter.unusedVariables false
namespace Go.Proofs.Ytknmfohipdjlpaa
open Go.RowKit

set_option maxHeartbeats 1000000 in
theorem Set_any (bz bx : Nat) (x : Int) (m : Nat) (w : World) (hz : Slot w bz) (hx : BigAt w bx x) (hm : x.natAbs < pw m) (hm' : m ≤ 100000000) :
    Calls Try.prog 57 #[.pointer (some ⟨bz, 0, none⟩), .pointer (some ⟨bx, 0, none⟩)] w fun e w' => e = .returned (.pointer (some ⟨bz, 0, none⟩)) ∧ BigAt w' bz (x) ∧ Upd bz w w' := by
  obtain ⟨xa, xl, xc, cx0, cx1, nx, _⟩ := hx.open
  have lx := hx.lt
  have HZ : Hid (Slot w bz) := hz
  have NX : Hid (NS w (.slice xa xl xc) x.natAbs) := nx
  have HM : Hid (x.natAbs < pw m) := hm
  clear hx hz nx hm
  obtain ⟨p, hp⟩ : ∃ p, p = decide (x < 0) := ⟨_, rfl⟩
  rw [← hp] at cx0
  have HXY : Hid (sgd p x.natAbs = x) := by show _ = _; rw [hp, sgd_self]
  clear hp
  go_enter Try.func57, Try.ntmps57
  go_wp2
  refine wp_region_G (fun w' => w'.cell? ⟨bx, 0, none⟩ = some (.bool p) ∧ w'.cell? ⟨bx, 1, none⟩ = some (.slice xa xl xc)) 10 (by kernel_rfl) ⟨cx0, cx1⟩ (fun hHeld => ?_)
  refine wpAnyG_take (i := 0) (v := ?v0) rfl (by kernel_rfl) (fun _ _ _ h => h) (Or.inl ⟨by rfl, ?y0⟩) hHeld ?r0
  case y0 => (intro wS hSw; obtain ⟨s1, s2⟩ := hSw; go_simp; try with_reducible rfl)
  try simp only [Act.put, List.setIfInBounds_toArray, List.set_cons_zero, List.set_cons_succ]
  refine wpAnyG_take (i := 1) (v := ?v1) rfl (by kernel_rfl) (fun _ _ _ h => h) (Or.inl ⟨by rfl, ?y1⟩) hHeld ?r1
  case y1 => (intro wS hSw; obtain ⟨s1, s2⟩ := hSw; go_simp; try with_reducible rfl)
  try simp only [Act.put, List.setIfInBounds_toArray, List.set_cons_zero, List.set_cons_succ]
  refine wpAnyG_take (i := 2) (v := ?v2) rfl (by kernel_rfl) (fun _ _ _ h => h) (Or.inl ⟨by rfl, ?y2⟩) hHeld ?r2
  case y2 => (intro wS hSw; obtain ⟨s1, s2⟩ := hSw; go_simp; try with_reducible rfl)
  try simp only [Act.put, List.setIfInBounds_toArray, List.set_cons_zero, List.set_cons_succ]
  refine wpAnyG_take (i := 3) (v := ?v3) rfl (by kernel_rfl) (fun _ _ _ h => h) (Or.inl ⟨by rfl, ?y3⟩) hHeld ?r3
  case y3 => (intro wS hSw; obtain ⟨s1, s2⟩ := hSw; go_simp; try with_reducible rfl)
  try simp only [Act.put, List.setIfInBounds_toArray, List.set_cons_zero, List.set_cons_succ]
  refine wpAnyG_take (i := 4) (v := ?v4) rfl (by kernel_rfl) (fun _ _ _ h => h) (Or.inl ⟨by rfl, ?y4⟩) hHeld ?r4
  case y4 => (intro wS hSw; obtain ⟨s1, s2⟩ := hSw; go_simp; try with_reducible rfl)
  try simp only [Act.put, List.setIfInBounds_toArray, List.set_cons_zero, List.set_cons_succ]
  refine wpAnyG_take (i := 5) (v := ?v5) rfl (by kernel_rfl) (fun _ _ _ h => h) (Or.inl ⟨by rfl, ?y5⟩) hHeld ?r5
  case y5 => (intro wS hSw; obtain ⟨s1, s2⟩ := hSw; go_simp; try with_reducible rfl)
  try simp only [Act.put, List.setIfInBounds_toArray, List.set_cons_zero, List.set_cons_succ]
  refine wpAnyG_take (i := 6) (v := ?v6) rfl (by kernel_rfl) (fun _ _ _ h => h) (Or.inl ⟨by rfl, ?y6⟩) hHeld ?r6
  case y6 => (intro wS hSw; obtain ⟨s1, s2⟩ := hSw; go_simp; try with_reducible rfl)
  try simp only [Act.put, List.setIfInBounds_toArray, List.set_cons_zero, List.set_cons_succ]
  refine wpAnyG_take (i := 7) (v := ?v7) rfl (by kernel_rfl) (fun _ _ _ h => h) (Or.inl ⟨by rfl, ?y7⟩) hHeld ?r7
  case y7 => (intro wS hSw; obtain ⟨s1, s2⟩ := hSw; go_simp; try with_reducible rfl)
  try simp only [Act.put, List.setIfInBounds_toArray, List.set_cons_zero, List.set_cons_succ]
  refine wpAnyG_take (i := 8) (v := ?v8) rfl (by kernel_rfl) (fun _ _ _ h => h) (Or.inl ⟨by rfl, ?y8⟩) hHeld ?r8
  case y8 => (intro wS hSw; obtain ⟨s1, s2⟩ := hSw; go_simp; try with_reducible rfl)
  try simp only [Act.put, List.setIfInBounds_toArray, List.set_cons_zero, List.set_cons_succ]
  refine wpAnyG_one (i := 9) rfl (by kernel_rfl) (fun K hK => ?_)
  go_simp
  refine (twin_any _ x.natAbs m _ NX.out.drew HM.out hm').mono ?_
  rintro e w1 ⟨r, rfl, hr, hb⟩
  refine hK.out _ _ ⟨(hb.cell lx).trans cx0, (hb.cell lx).trans cx1⟩ ?_
  clear hK K
  try simp only [Act.put, List.setIfInBounds_toArray, List.set_cons_zero, List.set_cons_succ]
  refine wpAnyG_last (i := 10) rfl (by kernel_rfl) (by kernel_rfl) (fun K hK => ?_)
  go_simp
  refine (give_any bz p r x.natAbs w1 (HZ.out.drew.below hb (Nat.le_refl _)) hr).mono ?_
  rw [HXY.out]
  rintro e w2 ⟨rfl, hbig, hu⟩
  refine hK.out _ _ ?_
  clear hK K
  try simp only [Act.put, List.setIfInBounds_toArray, List.set_cons_zero, List.set_cons_succ]
  refine wpAnyG_last (i := 11) rfl (by kernel_rfl) (by kernel_rfl) (fun K hK => ?_)
  go_simp
  refine hK.out _ _ ?_
  clear hK K
  try simp only [Act.put, List.setIfInBounds_toArray, List.set_cons_zero, List.set_cons_succ]
  refine wpAnyG_done (by kernel_rfl) ?_ _
  go_wp2
  go_ret
  exact ⟨rfl, hbig, (Upd.refl bz w).drew.trans (Upd.then_below hb hu)⟩

set_option maxHeartbeats 1000000 in
theorem Neg_any (bz bx : Nat) (x : Int) (m : Nat) (w : World) (hz : Slot w bz) (hx : BigAt w bx x) (hm : x.natAbs < pw m) (hm' : m ≤ 100000000) :
    Calls Try.prog 66 #[.pointer (some ⟨bz, 0, none⟩), .pointer (some ⟨bx, 0, none⟩)] w fun e w' => e = .returned (.pointer (some ⟨bz, 0, none⟩)) ∧ BigAt w' bz (-x) ∧ Upd bz w w' := by
  obtain ⟨xa, xl, xc, cx0, cx1, nx, _⟩ := hx.open
  have lx := hx.lt
  have HZ : Hid (Slot w bz) := hz
  have NX : Hid (NS w (.slice xa xl xc) x.natAbs) := nx
  have HM : Hid (x.natAbs < pw m) := hm
  clear hx hz nx hm
  obtain ⟨p, hp⟩ : ∃ p, p = decide (x < 0) := ⟨_, rfl⟩
  rw [← hp] at cx0
  have HXY : Hid (sgd (!p) x.natAbs = -x) := by show _ = _; rw [sgd_not, hp, sgd_self]
  clear hp
  go_enter Try.func66, Try.ntmps66
  go_wp2
  refine wp_region_G (fun w' => w'.cell? ⟨bx, 0, none⟩ = some (.bool p) ∧ w'.cell? ⟨bx, 1, none⟩ = some (.slice xa xl xc)) 11 (by kernel_rfl) ⟨cx0, cx1⟩ (fun hHeld => ?_)
  refine wpAnyG_take (i := 0) (v := ?v0) rfl (by kernel_rfl) (fun _ _ _ h => h) (Or.inl ⟨by rfl, ?y0⟩) hHeld ?r0
  case y0 => (intro wS hSw; obtain ⟨s1, s2⟩ := hSw; go_simp; try with_reducible rfl)
  try simp only [Act.put, List.setIfInBounds_toArray, List.set_cons_zero, List.set_cons_succ]
  refine wpAnyG_take (i := 1) (v := ?v1) rfl (by kernel_rfl) (fun _ _ _ h => h) (Or.inl ⟨by rfl, ?y1⟩) hHeld ?r1
  case y1 => (intro wS hSw; obtain ⟨s1, s2⟩ := hSw; go_simp; try with_reducible rfl)
  try simp only [Act.put, List.setIfInBounds_toArray, List.set_cons_zero, List.set_cons_succ]
  refine wpAnyG_take (i := 2) (v := ?v2) rfl (by kernel_rfl) (fun _ _ _ h => h) (Or.inl ⟨by rfl, ?y2⟩) hHeld ?r2
  case y2 => (intro wS hSw; obtain ⟨s1, s2⟩ := hSw; go_simp; try with_reducible rfl)
  try simp only [Act.put, List.setIfInBounds_toArray, List.set_cons_zero, List.set_cons_succ]
  refine wpAnyG_take (i := 3) (v := ?v3) rfl (by kernel_rfl) (fun _ _ _ h => h) (Or.inl ⟨by rfl, ?y3⟩) hHeld ?r3
  case y3 => (intro wS hSw; obtain ⟨s1, s2⟩ := hSw; go_simp; try with_reducible rfl)
  try simp only [Act.put, List.setIfInBounds_toArray, List.set_cons_zero, List.set_cons_succ]
  refine wpAnyG_take (i := 4) (v := ?v4) rfl (by kernel_rfl) (fun _ _ _ h => h) (Or.inl ⟨by rfl, ?y4⟩) hHeld ?r4
  case y4 => (intro wS hSw; obtain ⟨s1, s2⟩ := hSw; go_simp; try with_reducible rfl)
  try simp only [Act.put, List.setIfInBounds_toArray, List.set_cons_zero, List.set_cons_succ]
  refine wpAnyG_take (i := 5) (v := ?v5) rfl (by kernel_rfl) (fun _ _ _ h => h) (Or.inl ⟨by rfl, ?y5⟩) hHeld ?r5
  case y5 => (intro wS hSw; obtain ⟨s1, s2⟩ := hSw; go_simp; try with_reducible rfl)
  try simp only [Act.put, List.setIfInBounds_toArray, List.set_cons_zero, List.set_cons_succ]
  refine wpAnyG_take (i := 6) (v := ?v6) rfl (by kernel_rfl) (fun _ _ _ h => h) (Or.inl ⟨by rfl, ?y6⟩) hHeld ?r6
  case y6 => (intro wS hSw; obtain ⟨s1, s2⟩ := hSw; go_simp; try with_reducible rfl)
  try simp only [Act.put, List.setIfInBounds_toArray, List.set_cons_zero, List.set_cons_succ]
  refine wpAnyG_take (i := 7) (v := ?v7) rfl (by kernel_rfl) (fun _ _ _ h => h) (Or.inl ⟨by rfl, ?y7⟩) hHeld ?r7
  case y7 => (intro wS hSw; obtain ⟨s1, s2⟩ := hSw; go_simp; try with_reducible rfl)
  try simp only [Act.put, List.setIfInBounds_toArray, List.set_cons_zero, List.set_cons_succ]
  refine wpAnyG_take (i := 8) (v := ?v8) rfl (by kernel_rfl) (fun _ _ _ h => h) (Or.inl ⟨by rfl, ?y8⟩) hHeld ?r8
  case y8 => (intro wS hSw; obtain ⟨s1, s2⟩ := hSw; go_simp; try with_reducible rfl)
  try simp only [Act.put, List.setIfInBounds_toArray, List.set_cons_zero, List.set_cons_succ]
  refine wpAnyG_take (i := 9) (v := ?v9) rfl (by kernel_rfl) (fun _ _ _ h => h) (Or.inl ⟨by rfl, ?y9⟩) hHeld ?r9
  case y9 => (intro wS hSw; obtain ⟨s1, s2⟩ := hSw; go_simp; try with_reducible rfl)
  try simp only [Act.put, List.setIfInBounds_toArray, List.set_cons_zero, List.set_cons_succ]
  refine wpAnyG_one (i := 10) rfl (by kernel_rfl) (fun K hK => ?_)
  go_simp
  refine (twin_any _ x.natAbs m _ NX.out.drew HM.out hm').mono ?_
  rintro e w1 ⟨r, rfl, hr, hb⟩
  refine hK.out _ _ ⟨(hb.cell lx).trans cx0, (hb.cell lx).trans cx1⟩ ?_
  clear hK K
  try simp only [Act.put, List.setIfInBounds_toArray, List.set_cons_zero, List.set_cons_succ]
  refine wpAnyG_last (i := 11) rfl (by kernel_rfl) (by kernel_rfl) (fun K hK => ?_)
  go_simp
  refine (give_any bz (!p) r x.natAbs w1 (HZ.out.drew.below hb (Nat.le_refl _)) hr).mono ?_
  rw [HXY.out]
  rintro e w2 ⟨rfl, hbig, hu⟩
  refine hK.out _ _ ?_
  clear hK K
  try simp only [Act.put, List.setIfInBounds_toArray, List.set_cons_zero, List.set_cons_succ]
  refine wpAnyG_last (i := 12) rfl (by kernel_rfl) (by kernel_rfl) (fun K hK => ?_)
  go_simp
  refine hK.out _ _ ?_
  clear hK K
  try simp only [Act.put, List.setIfInBounds_toArray, List.set_cons_zero, List.set_cons_succ]
  refine wpAnyG_done (by kernel_rfl) ?_ _
  go_wp2
  go_ret
  exact ⟨rfl, hbig, (Upd.refl bz w).drew.trans (Upd.then_below hb hu)⟩

set_option maxHeartbeats 1000000 in
theorem Abs_any (bz bx : Nat) (x : Int) (m : Nat) (w : World) (hz : Slot w bz) (hx : BigAt w bx x) (hm : x.natAbs < pw m) (hm' : m ≤ 100000000) :
    Calls Try.prog 60 #[.pointer (some ⟨bz, 0, none⟩), .pointer (some ⟨bx, 0, none⟩)] w fun e w' => e = .returned (.pointer (some ⟨bz, 0, none⟩)) ∧ BigAt w' bz (x.natAbs : Int) ∧ Upd bz w w' := by
  obtain ⟨xa, xl, xc, cx0, cx1, nx, _⟩ := hx.open
  have HZ : Hid (Slot w bz) := hz
  have NX : Hid (NS w (.slice xa xl xc) x.natAbs) := nx
  have HM : Hid (x.natAbs < pw m) := hm
  clear hx hz nx hm
  go_enter Try.func60, Try.ntmps60
  go_wp2_with fail
  refine (twin_any _ x.natAbs m _ NX.out HM.out hm').mono ?_
  rintro e w1 ⟨r, rfl, hr, hb⟩
  go_wp2_with fail
  refine (give_any bz false r x.natAbs w1 (HZ.out.below hb (Nat.le_refl _)) hr).mono ?_
  rintro e w2 ⟨rfl, hbig, hu⟩
  go_wp2
  go_ret
  exact ⟨rfl, hbig, Upd.then_below hb hu⟩

end Go.Proofs.Ytknmfohipdjlpaa
