import Derived.Test.YtfbgblidlabipaaGreatDoorRaM
import Derived.Test.YtfbgblidlabipaaGreatDoorRaL
import Derived.Test.YtfbgblidlabipaaGreatDoorJoinM
import Derived.Test.YtfbgblidlabipaaGreatDoorJoinC
import Derived.Test.YtfbgblidlabipaaGreatDoorJoinG
import Derived.Test.YtfbgblidlabipaaGreatDoorJoinK
section
/- Ratios that stand. -/
set_option linter.unusedSimpArgs false
set_option linter.unusedVariables false
set_option maxRecDepth 100000
namespace Go.Proofs.YtfbgblidlabipaaGreatDoor
open Go.RowKit

theorem Rt.updR {w w' : World} {b z : Nat} {P Q : Int} (h : Rt w b P Q) (u : Upd z w w') (hz : RSlot w z) (hne : b ≠ z) : Rt w' b P Q := by
  obtain ⟨⟨s, t, h1, h2, h3⟩, h4, h5⟩ := h
  obtain ⟨x0, x1, x2, x3, hc⟩ := hz
  exact ⟨⟨s, t, (u.block b h1.lt hne).trans h1, h2.updR u hc, h3.updR u hc⟩, h4, h5⟩
theorem RSlot.updR {w w' : World} {b z : Nat} (h : RSlot w b) (u : Upd z w w') (hne : b ≠ z) : RSlot w' b := by
  obtain ⟨x0, x1, x2, x3, hc⟩ := h
  exact ⟨x0, x1, x2, x3, (u.block b hc.lt hne).trans hc⟩

/-- Ratios and fresh places for them that stand, and that nothing under B has turned. -/
structure Rk (w0 w : World) (B : Nat) (L : List (Nat × Int × Int)) (F : List Nat) : Prop where
  bel : Below B w0 w
  le : B ≤ w.heap.size
  rat : ∀ p ∈ L, Rt w p.1 p.2.1 p.2.2
  fr : ∀ b ∈ F, RSlot w b
theorem Rk.alloc {w0 w : World} {B : Nat} {L : List (Nat × Int × Int)} {F : List Nat} (h : Rk w0 w B L F) (x0 x1 x2 x3 : Value) : Rk w0 (w.alloc (.cells #[x0, x1, x2, x3] 103)) B L (w.heap.size :: F) :=
  ⟨h.bel.alloc h.le _, Nat.le_trans h.le (by simp), fun p hp => (h.rat p hp).below (Below.alloc_self' w _), fun b hb => by
    rcases List.mem_cons.1 hb with h1 | h1
    · subst h1; exact RSlot.new w x0 x1 x2 x3
    · exact (h.fr b h1).below (Below.alloc_self' w _)⟩
theorem Rk.below {w0 w w' : World} {B : Nat} {L : List (Nat × Int × Int)} {F : List Nat} (h : Rk w0 w B L F) (k : Below w.heap.size w w') : Rk w0 w' B L F :=
  ⟨h.bel.trans (k.mono h.le), Nat.le_trans h.le k.size, fun p hp => (h.rat p hp).below k, fun b hb => (h.fr b hb).below k⟩
theorem Rk.upd {w0 w w' : World} {B z : Nat} {P Q : Int} {L L' : List (Nat × Int × Int)} {F F' : List Nat} (h : Rk w0 w B L F) (hz : RSlot w z) (hB : B ≤ z) (hx : Rt w' z P Q) (u : Upd z w w') (hL : ∀ p ∈ L', p ∈ L ∧ p.1 ≠ z) (hF : ∀ f ∈ F', f ∈ F ∧ f ≠ z) : Rk w0 w' B ((z, P, Q) :: L') F' :=
  ⟨h.bel.trans (u.below h.le hB), Nat.le_trans h.le u.size, fun p hp => by
    rcases List.mem_cons.1 hp with h1 | h1
    · subst h1; exact hx
    · exact (h.rat p (hL p h1).1).updR u hz (hL p h1).2, fun c hc => (h.fr c (hF c hc).1).updR u (hF c hc).2⟩

end Go.Proofs.YtfbgblidlabipaaGreatDoor
end

section
/- arithmeticabig's ratios: Set, Abs, NewRat. -/
set_option linter.unusedSimpArgs false
set_option linter.unusedVariables false
set_option maxRecDepth 100000
namespace Go.Proofs.YtfbgblidlabipaaGreatDoor
open Go.RowKit

set_option maxHeartbeats 1000000 in
theorem Abs_num (b : Nat) (p q : Int) (m : Nat) (w : World) (hz : RatAt w b p q) (hm : p.natAbs < pw m) (hm' : m ≤ 100000000) :
    Calls Tryz.prog 99 #[.pointer (some ⟨b, 0, none⟩), .pointer (some ⟨b, 0, none⟩)] w fun e w' => e = .returned (.pointer (some ⟨b, 0, none⟩)) ∧ RatAt w' b (p.natAbs : Int) q ∧ Upd b w w' := by
  obtain ⟨xa, xl, xc, cx0, cx1, nx, _⟩ := hz.num.open
  have lx := hz.num.lt
  have HZ : Hid (RatAt w b p q) := hz
  have NX : Hid (NS w (.slice xa xl xc) p.natAbs) := nx
  have HM : Hid (p.natAbs < pw m) := hm
  simp only [Nat.zero_add] at cx1
  clear hz nx hm
  go_enter Tryz.func99, Tryz.ntmps99
  go_wp2_with fail
  refine (twin_any _ p.natAbs m _ NX.out HM.out hm').mono ?_
  rintro e w1 ⟨r, rfl, hr, hb⟩
  obtain ⟨s0, t0, k1, k2, k3⟩ := HZ.out
  have c1 := k1.below hb
  have HR : Hid (NS w1 r p.natAbs) := hr
  have HC1 : Hid (Cl b [.bool (decide (p < 0)), s0, .bool (decide (q < 0)), t0] 103 w1) := c1
  have HT0 : Hid (NS w1 t0 q.natAbs) := k3.below hb (Nat.le_refl _)
  have HBl : Hid (Below w.heap.size w w1) := hb
  have HGi : Hid (Calls Tryz.prog 79 #[.pointer (some ⟨b, 0, none⟩), .bool false, r] w1 fun e w' => e = .returned (.pointer (some ⟨b, 0, none⟩)) ∧ Cl b [.bool (decide (sgd false p.natAbs < 0)), r, .bool (decide (q < 0)), t0] 103 w' ∧ Upd b w1 w') := give_num b false r _ _ _ _ p.natAbs w1 c1 hr
  clear k1 k2 k3 c1 hr hb
  go_wp2_with fail
  refine HGi.out.mono ?_
  rintro e w2 ⟨rfl, hbig, hu⟩
  have HE : Hid (RatAt w2 b (p.natAbs : Int) q ∧ Upd b w w2) := by
    refine ⟨⟨r, t0, ?_, ?_, HT0.out.updR hu HC1.out⟩, (Upd.of_below HBl.out).trans hu⟩
    · have e1 : decide (((p.natAbs : Nat) : Int) < 0) = decide (sgd false p.natAbs < 0) := by simp [sgd]
      rw [e1]; exact hbig
    · rw [Int.natAbs_natCast]; exact HR.out.updR hu HC1.out
  clear hbig hu
  go_wp2
  go_ret
  exact ⟨rfl, HE.out.1, HE.out.2⟩

set_option maxHeartbeats 1000000 in
theorem RSet_any (bz b : Nat) (p q : Int) (m : Nat) (w : World) (hz : RSlot w bz) (hx : Rt w b p q) (hp1 : p.natAbs < pw m) (hq1 : q.natAbs < pw m) (hm' : m ≤ 100000000) :
    Calls Tryz.prog 128 #[.pointer (some ⟨bz, 0, none⟩), .pointer (some ⟨b, 0, none⟩)] w fun e w' => e = .returned (.pointer (some ⟨bz, 0, none⟩)) ∧ Rt w' bz p q ∧ Upd bz w w' := by
  have HX : Hid (Rt w b p q) := hx
  have HC : Hid (Calls Tryz.prog 63 #[.pointer (some ⟨bz, 0, none⟩), .pointer (some ⟨b, 0, none⟩), .pointer (some ⟨b, 2, none⟩)] w.drew fun e w' => e = .returned (.pointer (some ⟨bz, 0, none⟩)) ∧ ∃ P Q : Int, RatAt w' bz P Q ∧ 0 < Q ∧ P * q = p * Q ∧ Nat.gcd P.natAbs Q.natAbs = 1 ∧ P.natAbs ≤ p.natAbs ∧ Q.natAbs ≤ q.natAbs ∧ Upd bz w.drew w') := SetFrac_pos bz b 0 b 2 p q m w.drew (hz.below (Below.refl _ _).drew) (hx.at'.below (Below.refl _ _).drew).num (hx.at'.below (Below.refl _ _).drew).den hx.pos hp1 hq1 hm'
  have hb := hx.at'.num.lt
  have HDn2 : Hid (Calls Tryz.prog 127 #[.pointer (some ⟨b, 0, none⟩)] w.drew fun e w' => e = .returned (.pointer (some ⟨b, 2, none⟩)) ∧ w' = w.drew) := den_pos b p q w.drew (hx.at'.below (Below.refl _ _).drew) hx.pos
  clear hz hx hp1 hq1
  go_enter Tryz.func128, Tryz.ntmps128
  go_wp2_with fail
  refine wp_region_G (fun w' => b < w'.heap.size) 7 (by kernel_rfl) (by simpa using hb) (fun hHeld => ?_)
  refine wpAnyG_take (i := 0) (v := ?v0x1) rfl (by kernel_rfl) (fun _ _ _ h => h) (Or.inl ⟨by rfl, ?y0x1⟩) hHeld ?r0x1
  case y0x1 => (intro wS hSw; obtain s1 := hSw; go_simp; try with_reducible rfl)
  try simp only [Act.put, List.setIfInBounds_toArray, List.set_cons_zero, List.set_cons_succ]
  refine wpAnyG_take (i := 1) (v := ?v1x2) rfl (by kernel_rfl) (fun _ _ _ h => h) (Or.inl ⟨by rfl, ?y1x2⟩) hHeld ?r1x2
  case y1x2 => (intro wS hSw; obtain s1 := hSw; go_simp; try with_reducible rfl)
  try simp only [Act.put, List.setIfInBounds_toArray, List.set_cons_zero, List.set_cons_succ]
  refine wpAnyG_take (i := 2) (v := ?v2x3) rfl (by kernel_rfl) (fun _ _ _ h => h) (Or.inl ⟨by rfl, ?y2x3⟩) hHeld ?r2x3
  case y2x3 => (intro wS hSw; obtain s1 := hSw; go_simp; try with_reducible rfl)
  try simp only [Act.put, List.setIfInBounds_toArray, List.set_cons_zero, List.set_cons_succ]
  refine wpAnyG_take (i := 3) (v := ?v3x4) rfl (by kernel_rfl) (fun _ _ _ h => h) (Or.inl ⟨by rfl, ?y3x4⟩) hHeld ?r3x4
  case y3x4 => (intro wS hSw; obtain s1 := hSw; go_simp; try with_reducible rfl)
  try simp only [Act.put, List.setIfInBounds_toArray, List.set_cons_zero, List.set_cons_succ]
  refine wpAnyG_take (i := 4) (v := ?v4x5) rfl (by kernel_rfl) (fun _ _ _ h => h) (Or.inl ⟨by rfl, ?y4x5⟩) hHeld ?r4x5
  case y4x5 => (intro wS hSw; obtain s1 := hSw; go_simp; try with_reducible rfl)
  try simp only [Act.put, List.setIfInBounds_toArray, List.set_cons_zero, List.set_cons_succ]
  refine wpAnyG_one (i := 5) rfl (by kernel_rfl) (fun K hK => ?_)
  go_simp
  refine HDn2.out.mono ?_
  rintro e w1 ⟨rfl, hw1⟩
  rw [hw1]
  clear hw1 w1
  refine hK.out _ _ hHeld ?_
  clear hK K
  try simp only [Act.put, List.setIfInBounds_toArray, List.set_cons_zero, List.set_cons_succ]
  refine wpAnyG_one (i := 6) rfl (by kernel_rfl) (fun K hK => ?_)
  go_simp
  refine HC.out.mono ?_
  rintro e w2 ⟨rfl, P, Q, h1, h2, h3, h4, _, _, u2⟩
  have HE : Hid (Rt w2 bz p q ∧ Upd bz w w2) := by
    obtain ⟨rfl, rfl⟩ := low_uniq (p := p) (q := q) h2 HX.out.pos h3 h4 HX.out.low
    exact ⟨⟨h1, HX.out.pos, h4⟩, ⟨u2.os, u2.tape, u2.output, u2.size, u2.block⟩⟩
  have hb2 : b < w2.heap.size := Nat.lt_of_lt_of_le hb (by have := u2.size; simpa using this)
  clear h1 h2 h3 h4 u2 hHeld
  have hHeld := hb2
  refine hK.out _ _ hHeld ?_
  clear hK K
  try simp only [Act.put, List.setIfInBounds_toArray, List.set_cons_zero, List.set_cons_succ]
  refine wpAnyG_last (i := 7) rfl (by kernel_rfl) (by kernel_rfl) (fun K hK => ?_)
  go_simp
  refine hK.out _ _ ?_
  clear hK K
  try simp only [Act.put, List.setIfInBounds_toArray, List.set_cons_zero, List.set_cons_succ]
  refine wpAnyG_done (by kernel_rfl) ?_ _
  go_wp2
  go_ret
  exact ⟨rfl, HE.out.1, HE.out.2⟩

set_option maxHeartbeats 1000000 in
theorem RAbs_same (b : Nat) (p q : Int) (m : Nat) (w : World) (hx : Rt w b p q) (hp1 : p.natAbs < pw m) (hq1 : q.natAbs < pw m) (hm' : m ≤ 100000000) :
    Calls Tryz.prog 65 #[.pointer (some ⟨b, 0, none⟩), .pointer (some ⟨b, 0, none⟩)] w fun e w' => e = .returned (.pointer (some ⟨b, 0, none⟩)) ∧ Rt w' b (p.natAbs : Int) q ∧ Upd b w w' := by
  have HS : Hid (Calls Tryz.prog 128 #[.pointer (some ⟨b, 0, none⟩), .pointer (some ⟨b, 0, none⟩)] w fun e w' => e = .returned (.pointer (some ⟨b, 0, none⟩)) ∧ Rt w' b p q ∧ Upd b w w') := RSet_any b b p q m w hx.at'.rslot hx hp1 hq1 hm'
  have HP1 : Hid (p.natAbs < pw m) := hp1
  clear hx hp1 hq1
  go_enter Tryz.func65, Tryz.ntmps65
  go_wp2_with fail
  refine HS.out.mono ?_
  rintro e w1 ⟨rfl, r1, u1⟩
  have hb := r1.at'.num.lt
  have HR1 : Hid (Rt w1 b p q) := r1
  have HU1 : Hid (Upd b w w1) := u1
  clear r1 u1
  go_wp2_with fail
  refine wp_region_G (fun w' => b < w'.heap.size) 6 (by kernel_rfl) (by simpa using hb) (fun hHeld => ?_)
  refine wpAnyG_take (i := 0) (v := ?v0x6) rfl (by kernel_rfl) (fun _ _ _ h => h) (Or.inl ⟨by rfl, ?y0x6⟩) hHeld ?r0x6
  case y0x6 => (intro wS hSw; obtain s1 := hSw; go_simp; try with_reducible rfl)
  try simp only [Act.put, List.setIfInBounds_toArray, List.set_cons_zero, List.set_cons_succ]
  refine wpAnyG_take (i := 1) (v := ?v1x7) rfl (by kernel_rfl) (fun _ _ _ h => h) (Or.inl ⟨by rfl, ?y1x7⟩) hHeld ?r1x7
  case y1x7 => (intro wS hSw; obtain s1 := hSw; go_simp; try with_reducible rfl)
  try simp only [Act.put, List.setIfInBounds_toArray, List.set_cons_zero, List.set_cons_succ]
  refine wpAnyG_take (i := 2) (v := ?v2x8) rfl (by kernel_rfl) (fun _ _ _ h => h) (Or.inl ⟨by rfl, ?y2x8⟩) hHeld ?r2x8
  case y2x8 => (intro wS hSw; obtain s1 := hSw; go_simp; try with_reducible rfl)
  try simp only [Act.put, List.setIfInBounds_toArray, List.set_cons_zero, List.set_cons_succ]
  refine wpAnyG_take (i := 3) (v := ?v3x9) rfl (by kernel_rfl) (fun _ _ _ h => h) (Or.inl ⟨by rfl, ?y3x9⟩) hHeld ?r3x9
  case y3x9 => (intro wS hSw; obtain s1 := hSw; go_simp; try with_reducible rfl)
  try simp only [Act.put, List.setIfInBounds_toArray, List.set_cons_zero, List.set_cons_succ]
  refine wpAnyG_take (i := 4) (v := ?v4x10) rfl (by kernel_rfl) (fun _ _ _ h => h) (Or.inl ⟨by rfl, ?y4x10⟩) hHeld ?r4x10
  case y4x10 => (intro wS hSw; obtain s1 := hSw; go_simp; try with_reducible rfl)
  try simp only [Act.put, List.setIfInBounds_toArray, List.set_cons_zero, List.set_cons_succ]
  refine wpAnyG_take (i := 5) (v := ?v5x11) rfl (by kernel_rfl) (fun _ _ _ h => h) (Or.inl ⟨by rfl, ?y5x11⟩) hHeld ?r5x11
  case y5x11 => (intro wS hSw; obtain s1 := hSw; go_simp; try with_reducible rfl)
  try simp only [Act.put, List.setIfInBounds_toArray, List.set_cons_zero, List.set_cons_succ]
  refine wpAnyG_last (i := 6) rfl (by kernel_rfl) (by kernel_rfl) (fun K hK => ?_)
  go_simp
  refine (Abs_num b p q m _ (HR1.out.below (Below.refl _ _).drew).at' HP1.out hm').mono ?_
  rintro e w2 ⟨rfl, r2, u2⟩
  have HE : Hid (Rt w2 b (p.natAbs : Int) q ∧ Upd b w w2) := ⟨⟨r2, HR1.out.pos, by rw [Int.natAbs_natCast]; exact HR1.out.low⟩, HU1.out.trans ((Upd.refl b w1).drew.trans u2)⟩
  clear r2 u2
  refine hK.out _ _ ?_
  clear hK K
  try simp only [Act.put, List.setIfInBounds_toArray, List.set_cons_zero, List.set_cons_succ]
  refine wpAnyG_done (by kernel_rfl) ?_ _
  clear hHeld
  go_wp2
  go_ret
  exact ⟨rfl, HE.out.1, HE.out.2⟩

set_option maxHeartbeats 1000000 in
theorem NewRat_pos (a b : Int) (w : World) (ha : a.natAbs ≤ 1000000000000000000) (hb0 : 0 < b) (hb : b ≤ 1000000000000000000) :
    Calls Tryz.prog 61 #[.int .i64 a, .int .i64 b] w fun e w' => ∃ bx P Q, e = .returned (.pointer (some ⟨bx, 0, none⟩)) ∧ Rt w' bx P Q ∧ P * b = a * Q ∧ P.natAbs ≤ a.natAbs ∧ Q.natAbs ≤ b.natAbs ∧ w.heap.size ≤ bx ∧ Below w.heap.size w w' := by
  have hbz : (b == 0) = false := beq_eq_false_iff_ne.2 (by omega)
  have HPa : Hid (a.natAbs < pw 2 ∧ b.natAbs < pw 2) := by rw [pw_two]; exact ⟨by omega, by omega⟩
  have ka : Below w.heap.size w (w.alloc (.cells #[.bool false, .slice none 0 0, .bool false, .slice none 0 0] 103)) := (Below.refl _ _).alloc (Nat.le_refl _) _
  have HKa : Hid (Below w.heap.size w (w.alloc (.cells #[.bool false, .slice none 0 0, .bool false, .slice none 0 0] 103))) := ka
  clear ka
  go_enter Tryz.func61, Tryz.ntmps61
  go_wp2_with fail
  refine (NewInt_any a _ (by omega) (by omega)).mono ?_
  rintro e w1 ⟨b1, rfl, m1⟩
  have HS1 : Hid (RSlot w1 w.heap.size ∧ BigAt w1 b1 a ∧ Below w.heap.size w w1) := ⟨(RSlot.new w _ _ _ _).below m1.2.2, m1.2.1, HKa.out.trans (m1.2.2.mono (by simp))⟩
  clear m1
  go_wp2_with fail
  refine (NewInt_any b w1 (by omega) (by omega)).mono ?_
  rintro e w2 ⟨b2, rfl, m2⟩
  have HS2 : Hid (RSlot w2 w.heap.size ∧ BigAt w2 b1 a ∧ BigAt w2 b2 b ∧ Below w.heap.size w w2) := ⟨HS1.out.1.below m2.2.2, HS1.out.2.1.below m2.2.2 (Nat.le_refl _), m2.2.1, HS1.out.2.2.trans (m2.2.2.mono HS1.out.2.2.size)⟩
  clear m2
  go_wp2_with fail
  refine (SetFrac_pos w.heap.size b1 0 b2 0 a b 2 w2 HS2.out.1 HS2.out.2.1.at HS2.out.2.2.1.at hb0 HPa.out.1 HPa.out.2 (by omega)).mono ?_
  rintro e w3 ⟨rfl, P, Q, r1, r2, r3, r4, r5, r6, u3⟩
  have HE : Hid (Rt w3 w.heap.size P Q ∧ P * b = a * Q ∧ P.natAbs ≤ a.natAbs ∧ Q.natAbs ≤ b.natAbs ∧ Below w.heap.size w w3) := ⟨⟨r1, r2, r4⟩, r3, r5, r6, HS2.out.2.2.2.trans (u3.below HS2.out.2.2.2.size (Nat.le_refl _))⟩
  clear r1 r2 r3 r4 r5 r6 u3
  go_wp2
  go_ret
  exact ⟨_, P, Q, rfl, HE.out.1, HE.out.2.1, HE.out.2.2.1, HE.out.2.2.2.1, Nat.le_refl _, HE.out.2.2.2.2⟩

end Go.Proofs.YtfbgblidlabipaaGreatDoor
end

section
/- arithmeticabig's Div. -/
set_option linter.unusedSimpArgs false
set_option linter.unusedVariables false
set_option maxRecDepth 100000
namespace Go.Proofs.YtfbgblidlabipaaGreatDoor
open Go.RowKit

set_option maxHeartbeats 1000000 in
theorem Div_any (bz bx by' : Nat) (x y : Int) (m n : Nat) (w : World) (hz : Slot w bz) (hx : BigAt w bx x) (hy : BigAt w by' y) (hy0 : y ≠ 0) (hm : x.natAbs < pw m) (hn : y.natAbs < pw n) (hm' : m ≤ 100000000) (hn' : n ≤ 100000000) :
    Calls Tryz.prog 62 #[.pointer (some ⟨bz, 0, none⟩), .pointer (some ⟨bx, 0, none⟩), .pointer (some ⟨by', 0, none⟩)] w fun e w' => e = .returned (.pointer (some ⟨bz, 0, none⟩)) ∧ BigAt w' bz (x / y) ∧ Upd bz w w' := by
  have lz := hz.lt
  have HZ : Hid (Slot w bz) := hz
  have HX : Hid (BigAt w bx x) := hx
  have HY : Hid (BigAt w by' y) := hy
  have HM : Hid (x.natAbs < pw m) := hm
  have HN : Hid (y.natAbs < pw n) := hn
  have HY0 : Hid (y ≠ 0) := hy0
  clear hx hy hz hm hn hy0
  go_enter Tryz.func62, Tryz.ntmps62
  go_wp2_with fail
  refine (DivMod_any bz bx by' w.heap.size x y m n _ (HZ.out.below (Below.alloc_self' w _) (Nat.le_refl _)) (slot_new w _ _) (by omega) (HX.out.below (Below.alloc_self' w _) (Nat.le_refl _)) (HY.out.below (Below.alloc_self' w _) (Nat.le_refl _)) HY0.out HM.out HN.out hm' hn').mono ?_
  rintro e w1 ⟨rfl, h1, _, h3⟩
  go_wp2
  go_ret
  exact ⟨rfl, h1, h3.swap.fresh (Below.alloc_self' w _) (Nat.le_refl _)⟩

end Go.Proofs.YtfbgblidlabipaaGreatDoor
end

section
/- The contract of modulo.Power: a power by a number, bit by bit. -/
set_option linter.unusedSimpArgs false
set_option linter.unusedVariables false
set_option maxRecDepth 100000
namespace Go.Proofs.YtfbgblidlabipaaGreatDoor
open Go.RowKit

/-- One more bit of the exponent. -/
theorem mod_pow_succ (n i : Nat) : n % 2 ^ (i + 1) = n % 2 ^ i + 2 ^ i * (n / 2 ^ i % 2) := by
  rw [Nat.pow_succ, Nat.mod_mul]

theorem pow_sq (A i m : Nat) : (A ^ 2 ^ i % m) * (A ^ 2 ^ i % m) % m = A ^ 2 ^ (i + 1) % m := by
  rw [← Nat.mul_mod, ← Nat.pow_add, Nat.pow_succ]; congr 2; omega

theorem pow_one_bit (A n i m : Nat) (h : n / 2 ^ i % 2 = 1) : (A ^ (n % 2 ^ i) % m) * (A ^ 2 ^ i % m) % m = A ^ (n % 2 ^ (i + 1)) % m := by
  rw [← Nat.mul_mod, ← Nat.pow_add, mod_pow_succ, h, Nat.mul_one]
theorem pow_no_bit (A n i m : Nat) (h : n / 2 ^ i % 2 = 0) : A ^ (n % 2 ^ i) % m = A ^ (n % 2 ^ (i + 1)) % m := by
  rw [mod_pow_succ, h, Nat.mul_zero, Nat.add_zero]

theorem and_one_i64 (a : Nat) (ha : a < 9223372036854775808) : bits .and .i64 (a : Int) 1 = ((a % 2 : Nat) : Int) := by
  have h1 : (BitVec.ofInt 64 (a : Int)).toNat = a := by
    rw [BitVec.ofInt_natCast, BitVec.toNat_ofNat]; exact Nat.mod_eq_of_lt (by omega)
  have h2 : (BitVec.ofInt 64 (1 : Int)).toNat = 1 := by decide
  show IntKind.i64.wrap ((BitVec.ofInt 64 (a : Int) &&& BitVec.ofInt 64 (1 : Int)).toNat : Int) = _
  rw [BitVec.toNat_and, h1, h2, Nat.and_one_is_mod, IntKind.wrap_i64]
  omega

theorem bit_i64 (n i b : Nat) (hn : n < 9223372036854775808) (h : n / 2 ^ i % 2 = b) : bits .and .i64 ((n : Int) / 2 ^ i) 1 = (b : Int) := by
  have e : (n : Int) / 2 ^ i = ((n / 2 ^ i : Nat) : Int) := by simp
  rw [e, and_one_i64 _ (Nat.lt_of_le_of_lt (Nat.div_le_self ..) hn), h]

set_option maxHeartbeats 1000000 in
theorem modPower_any (a : Int) (n m : Nat) (w : World) (ha : a.natAbs ≤ 4000000000000000000) (h0 : 0 < m) (hm : m ≤ 1000000000000000000) (hn : n ≤ 1000000000000000000) :
    Calls Tryz.prog 284 #[.int .i64 a, .int .i64 n, .int .i64 m] w fun e w' => e = .returned (.int .i64 (((a % (m : Int)).toNat ^ n % m : Nat) : Int)) ∧ ∃ q, w' = w.drewN q := by
  obtain ⟨A, gA⟩ : ∃ A : Nat, A = (a % (m : Int)).toNat := ⟨_, rfl⟩
  have h1 : 0 ≤ a % (m : Int) := Int.emod_nonneg _ (by omega)
  have h2 : a % (m : Int) < (m : Int) := Int.emod_lt_of_pos _ (by omega)
  have HA : Hid (a % (m : Int) = (A : Int)) := by show _ = _; omega
  have hA : A < m := by omega
  rw [← gA]
  clear gA h1 h2
  have hbl := bl_spec n (by omega)
  have hL : Lib.bitLen n ≤ 64 := Lib.bitLen_le n 64 (by omega) (by omega)
  obtain ⟨L, gL⟩ : ∃ L, L = Lib.bitLen n := ⟨_, rfl⟩
  rw [← gL] at hbl hL
  have HL : Hid (n < 2 ^ L) := hbl.1
  have HLE : Hid (Lib.bitLen ((n : Int).toNat) = L) := by show _ = _; rw [gL]; rfl
  clear hbl gL
  go_enter Tryz.func284, Tryz.ntmps284
  go_wp2_with fail
  refine (left_any 1 m w (by omega) h0 (by omega)).mono ?_
  rintro e w1 ⟨rfl, rfl⟩
  obtain ⟨o, go⟩ : ∃ o, o = 1 % m := ⟨_, rfl⟩
  have e1 : (1 : Int) % (m : Int) = (o : Int) := by rw [go]; rfl
  rw [e1]
  have hom : o < m := by rw [go]; exact Nat.mod_lt _ h0
  have HO : Hid (o = 1 % m) := go
  clear e1 go
  go_wp2_with fail
  refine (left_any a m w1 ha h0 (by omega)).mono ?_
  rintro e w2 ⟨rfl, rfl⟩
  rw [HA.out]
  go_wp2_with fail
  refine (Len64_int _ _ (by omega) (by omega)).mono ?_
  rw [HLE.out]
  rintro e w3 ⟨rfl, rfl⟩
  go_wp2_with fail
  go_loopw [7, 8, 18] (fun av sv iv wx => ∃ i x y : Nat, i ≤ L ∧ iv = .int .i64 i ∧ av = .int .i64 x ∧ sv = .int .i64 y ∧ x < m ∧ y < m ∧ Hid (x = A ^ (n % 2 ^ i) % m ∧ y = A ^ 2 ^ i % m ∧ ∃ q, wx = w3.drewN q)) (fun _ _ iv _ => L - (intOf iv).toNat)
  case atStart => exact ⟨0, o, A, Nat.zero_le _, rfl, rfl, rfl, hom, hA, by rw [HO.out]; simp [Nat.mod_one], by simp [Nat.mod_eq_of_lt hA], 0, rfl⟩
  case round =>
    obtain ⟨i, x, y, hi, rfl, rfl, rfl, hx, hy, HR⟩ := hrel
    by_cases hlt : i < L
    · have hy2 : y * y % m < m := Nat.mod_lt _ h0
      obtain ⟨y2, gy⟩ : ∃ y2, y2 = y * y % m := ⟨_, rfl⟩
      have HY2 : Hid (y2 = A ^ 2 ^ (i + 1) % m) := by show _ = _; rw [gy, HR.out.2.1, pow_sq]
      have HYE : Hid (y * y % m = y2) := gy.symm
      rw [← gy] at hy2
      clear gy
      rcases Nat.mod_two_eq_zero_or_one (n / 2 ^ i) with hb | hb
      · have hbit := bit_i64 n i 0 (by omega) hb
        have HX2 : Hid (x = A ^ (n % 2 ^ (i + 1)) % m) := by show _ = _; rw [HR.out.1, pow_no_bit _ _ _ _ hb]
        clear hb
        go_wp2_with fail
        refine (productLeft_any y y m _ hy hy hm).mono ?_
        rw [HYE.out]
        rintro e w4 ⟨rfl, q4, rfl⟩
        go_wp2
        go_roundw
        case rel =>
          obtain ⟨q, hq⟩ := HR.out.2.2
          exact ⟨i + 1, x, y2, by omega, by go_num, rfl, rfl, hx, hy2, HX2.out, HY2.out, drewN_more ⟨q, hq⟩ _⟩
        case measure => simp [intOf]; omega
      · have hbit := bit_i64 n i 1 (by omega) hb
        have hx2 : x * y % m < m := Nat.mod_lt _ h0
        obtain ⟨x2, gx⟩ : ∃ x2, x2 = x * y % m := ⟨_, rfl⟩
        have HX2 : Hid (x2 = A ^ (n % 2 ^ (i + 1)) % m) := by show _ = _; rw [gx, HR.out.1, HR.out.2.1, pow_one_bit _ _ _ _ hb]
        have HXE : Hid (x * y % m = x2) := gx.symm
        rw [← gx] at hx2
        clear hb gx
        go_wp2_with fail
        refine (productLeft_any x y m _ hx hy hm).mono ?_
        rw [HXE.out]
        rintro e w4 ⟨rfl, q4, rfl⟩
        go_wp2_with fail
        refine (productLeft_any y y m _ hy hy hm).mono ?_
        rw [HYE.out]
        rintro e w5 ⟨rfl, q5, rfl⟩
        go_wp2
        go_roundw
        case rel =>
          obtain ⟨q, hq⟩ := HR.out.2.2
          exact ⟨i + 1, x2, y2, by omega, by go_num, rfl, rfl, hx2, hy2, HX2.out, HY2.out, drewN_more ⟨q, hq⟩ _⟩
        case measure => simp [intOf]; omega
    · obtain rfl : i = L := by omega
      have HE : Hid (x = A ^ n % m) := by
        have h := HR.out.1
        rw [Nat.mod_eq_of_lt HL.out] at h
        exact h
      obtain ⟨q, rfl⟩ := HR.out.2.2
      go_wp2
      go_ret
      rw [HE.out]
      exact ⟨rfl, q, rfl⟩

end Go.Proofs.YtfbgblidlabipaaGreatDoor
end

section
/- Contracts: Uint64, Int64, bit, length. -/
set_option linter.unusedSimpArgs false
set_option linter.unusedVariables false
set_option maxRecDepth 100000
namespace Go.Proofs.YtfbgblidlabipaaGreatDoor
open Go.RowKit

set_option maxHeartbeats 1000000 in
theorem Uint64_any (bx : Nat) (x : Int) (w : World) (hx : BigAt w bx x) (h : x.natAbs < 18446744073709551616) :
    Calls Tryz.prog 129 #[.pointer (some ⟨bx, 0, none⟩)] w fun e w' => e = .returned (.int .u64 (x.natAbs : Int)) ∧ ∃ q, w' = w.drewN q := by
  obtain ⟨xa, xl, xc, cx0, cx1, nx, _⟩ := hx.open
  obtain ⟨l, aa, g, cap, e, va, na, sa, pa, cell, _, lt⟩ := nx.open
  simp at e
  obtain ⟨rfl, rfl, rfl⟩ := e
  have h2 : l.length ≤ 2 := na.len (by rw [va, pw_two]; exact h)
  obtain ⟨X, gX⟩ : ∃ X, X = x.natAbs := ⟨_, rfl⟩
  rw [← gX] at va h ⊢
  clear hx nx lt na gX cx0
  rcases short_list l h2 with rfl | ⟨a, rfl⟩ | ⟨a, b, rfl⟩
  · have hv : X = 0 := by simpa [val] using va.symm
    subst hv
    clear va h cell sa pa h2
    go_enter Tryz.func129, Tryz.ntmps129
    go_wp2
    go_ret
    exact ⟨rfl, 0, rfl⟩
  · have hv : X = a := by simpa [val] using va.symm
    subst hv
    have c0 := cell 0 (by simp)
    simp at c0
    obtain rfl := pa (by simp)
    have s0 := sa X (by simp)
    clear va h cell sa pa h2
    go_enter Tryz.func129, Tryz.ntmps129
    go_wp2
    go_ret
    exact ⟨rfl, 0, rfl⟩
  · have hv : X = a + 4294967296 * b := by simpa [val] using va.symm
    have c0 := cell 0 (by simp)
    have c1 := cell 1 (by simp)
    simp at c0 c1
    obtain rfl := pa (by simp)
    have s0 := sa a (by simp)
    have s1 := sa b (by simp)
    have eo := or_low a b s0 s1
    rw [← hv] at eo
    clear va h hv cell sa pa h2
    go_enter Tryz.func129, Tryz.ntmps129
    go_wp2
    first
      | (go_ret; exact ⟨rfl, 0, rfl⟩)
      | (go_quiet (fail)
         go_wp2
         go_ret
         exact ⟨rfl, _, rfl⟩)

set_option maxHeartbeats 1000000 in
theorem Int64_any (bx : Nat) (x : Int) (w : World) (hx : BigAt w bx x) (h : x.natAbs < 9223372036854775808) :
    Calls Tryz.prog 67 #[.pointer (some ⟨bx, 0, none⟩)] w fun e w' => e = .returned (.int .i64 x) ∧ ∃ q, w' = w.drewN q := by
  obtain ⟨xa, xl, xc, cx0, cx1, nx, _⟩ := hx.open
  have HX : Hid (BigAt w bx x) := hx
  clear hx nx cx1
  by_cases hneg : x < 0
  · rw [decide_eq_true hneg] at cx0
    go_enter Tryz.func67, Tryz.ntmps67
    go_wp2_with fail
    refine (Uint64_any bx x w HX.out (by omega)).mono ?_
    rintro e w1 ⟨rfl, q, rfl⟩
    go_wp2
    go_ret
    exact ⟨ret_int (by omega), q, rfl⟩
  · rw [decide_eq_false hneg] at cx0
    go_enter Tryz.func67, Tryz.ntmps67
    go_wp2_with fail
    refine (Uint64_any bx x w HX.out (by omega)).mono ?_
    rintro e w1 ⟨rfl, q, rfl⟩
    go_wp2
    go_ret
    exact ⟨ret_int (by omega), q, rfl⟩

theorem length_any (s : Value) (a m : Nat) (w : World) (ha : NS w s a) (hm : a < pw m) (hm' : m ≤ 100000000) :
    Calls Tryz.prog 100 #[s] w fun e w' => ∃ L : Nat, e = .returned (.int .i64 (L : Int)) ∧ a < 2 ^ L ∧ L ≤ 3200000000 ∧ w' = w := by
  obtain ⟨l, aa, g, cap, rfl, va, na, sa, pa, cell, _, lt⟩ := ha.open
  subst va
  have l1 : l.length ≤ 100000000 := Nat.le_trans (na.len hm) hm'
  by_cases h0 : l.length = 0
  · obtain rfl : l = [] := List.length_eq_zero_iff.1 h0
    clear ha pa cell lt hm
    go_enter Tryz.func100, Tryz.ntmps100
    go_wp2
    go_ret
    exact ⟨0, rfl, by simp [val], by omega, rfl⟩
  · refine (length_core l aa g cap w (by omega) l1 sa (pa (by omega)) (cell _ (by omega))).mono ?_
    rintro e w' ⟨t, rfl, hb, ht, rfl⟩
    refine ⟨_, rfl, ?_, by omega, rfl⟩
    have h1 := val_split l (l.length - 1) (by omega)
    have h2 := take_lt l (l.length - 1) (by omega) sa
    have h3 : val (l.drop (l.length - 1 + 1)) = 0 := by rw [List.drop_eq_nil_of_le (by omega)]; rfl
    rw [h3, Nat.mul_zero, Nat.add_zero] at h1
    have h4 := hb.lt
    rw [h1, Nat.pow_add, Nat.mul_comm (l.length - 1), ← pw_two_pow]
    have h5 : pw (l.length - 1) * (l.getD (l.length - 1) 0 + 1) ≤ pw (l.length - 1) * 2 ^ t := Nat.mul_le_mul_left _ h4
    rw [Nat.mul_add, Nat.mul_one] at h5
    omega

/-- One bit of a number, out of its word. -/
theorem bit_word (l : List Nat) (i : Nat) (h : ∀ x ∈ l, x < 4294967296) (hi : i / 32 < l.length) : l.getD (i / 32) 0 / 2 ^ (i % 32) % 2 = val l / 2 ^ i % 2 := by
  rw [val_drop_shift l h i (i / 32) (i % 32) (by omega) (by omega), drop_step l (i / 32) hi]
  generalize l.getD (i / 32) 0 = x
  generalize val (l.drop (i / 32 + 1)) = V
  have hr : i % 32 < 32 := Nat.mod_lt _ (by omega)
  obtain ⟨r, gr⟩ : ∃ r, r = i % 32 := ⟨_, rfl⟩
  rw [← gr] at hr ⊢
  have e : 4294967296 * V = 2 ^ r * (2 * (2 ^ (31 - r) * V)) := by
    have : 2 ^ r * 2 * 2 ^ (31 - r) = 4294967296 := by
      rw [← Nat.pow_succ, ← Nat.pow_add, show r + 1 + (31 - r) = 32 by omega]
    rw [← Nat.mul_assoc, ← Nat.mul_assoc, this]
  rw [e, Nat.add_mul_div_left _ _ (Nat.two_pow_pos r)]
  omega

theorem low_bit (x r : Nat) (hx : x < 4294967296) : bits .and .u64 (IntKind.u64.wrap ((x : Int) / 2 ^ r)) 1 = ((x / 2 ^ r % 2 : Nat) : Int) := by
  have e : (x : Int) / 2 ^ r = ((x / 2 ^ r : Nat) : Int) := by simp
  have h : x / 2 ^ r ≤ x := Nat.div_le_self ..
  rw [e]
  generalize x / 2 ^ r = y at *
  have hw : IntKind.u64.wrap (y : Int) = (y : Int) := wrapN y (by omega)
  rw [hw]
  have := bits_and_u64_nat y 1 (by omega) (by omega)
  rw [Nat.and_one_is_mod] at this
  exact this

theorem bit_none (A i : Nat) (h : A < 2 ^ i) : A / 2 ^ i % 2 = 0 := by rw [Nat.div_eq_of_lt h]

set_option maxHeartbeats 1000000 in
theorem bit_any (s : Value) (A i m : Nat) (w : World) (hs : NS w s A) (hm : A < pw m) (hm' : m ≤ 100000000) (hi : i ≤ 4000000000) :
    Calls Tryz.prog 77 #[s, .int .i64 i] w fun e w' => e = .returned (.int .u64 ((A / 2 ^ i % 2 : Nat) : Int)) ∧ ∃ q, w' = w.drewN q := by
  obtain ⟨l, aa, g, cap, rfl, va, na, sa, pa, cell, _, lt⟩ := hs.open
  subst va
  have l1 : l.length ≤ 100000000 := Nat.le_trans (na.len hm) hm'
  by_cases h0 : i / 32 < l.length
  · obtain rfl := pa (by omega)
    have c0 := cell _ h0
    have s0 := List.getD_lt_of sa (i / 32)
    have hb := bit_word l i sa h0
    have hr : i % 32 < 32 := Nat.mod_lt _ (by omega)
    rw [← hb]
    obtain ⟨k, gk⟩ : ∃ k, k = i / 32 := ⟨_, rfl⟩
    obtain ⟨r, gr⟩ : ∃ r, r = i % 32 := ⟨_, rfl⟩
    rw [← gk] at c0 s0 h0 ⊢
    rw [← gr] at hr ⊢
    obtain ⟨x, gx⟩ : ∃ x, x = l.getD k 0 := ⟨_, rfl⟩
    rw [← gx] at c0 s0 ⊢
    have ek : (i : Int) / 32 = (k : Int) := by omega
    have er : (i : Int) % 32 = (r : Int) := by omega
    clear hs hm lt cell pa sa na hb gk gr gx
    go_enter Tryz.func77, Tryz.ntmps77
    go_wp2
    go_ret
    exact ⟨ret_int (low_bit x r s0), 0, rfl⟩
  · have hz : val l / 2 ^ i % 2 = 0 := by
      refine bit_none _ _ ?_
      have h1 := val_lt l sa
      rw [pw_two_pow] at h1
      exact Nat.lt_of_lt_of_le h1 (Nat.pow_le_pow_right (by omega) (by omega))
    rw [hz]
    clear hs hm lt cell pa sa na hz
    go_enter Tryz.func77, Tryz.ntmps77
    go_wp2
    go_ret
    exact ⟨rfl, 0, rfl⟩

end Go.Proofs.YtfbgblidlabipaaGreatDoor
end
