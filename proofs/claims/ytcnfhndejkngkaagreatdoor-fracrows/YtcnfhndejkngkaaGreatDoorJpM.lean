import Derived.Test.YtcnfhndejkngkaaGreatDoorRaG
import Derived.Test.YtcnfhndejkngkaaGreatDoorJpE
section
set_option linter.unusedSimpArgs false
set_option linter.unusedVariables false
set_option maxRecDepth 100000
namespace Go.Proofs.YtcnfhndejkngkaaGreatDoor
open Go.RowKit
def RSlot (w : World) (b : Nat) : Prop := ∃ x0 x1 x2 x3, Cl b [x0, x1, x2, x3] 60 w
theorem RSlot.lt {w : World} {b : Nat} (h : RSlot w b) : b < w.heap.size := by obtain ⟨_, _, _, _, h⟩ := h; exact h.lt
theorem RSlot.below {w w' : World} {b : Nat} (h : RSlot w b) (k : Below w.heap.size w w') : RSlot w' b := by
  obtain ⟨x0, x1, x2, x3, h⟩ := h; exact ⟨x0, x1, x2, x3, h.below k⟩
theorem RSlot.new (w : World) (x0 x1 x2 x3 : Value) : RSlot (w.alloc (.cells #[x0, x1, x2, x3] 60)) w.heap.size := ⟨x0, x1, x2, x3, Cl.new [x0, x1, x2, x3] _ w⟩
set_option maxHeartbeats 2000000 in
theorem SetFrac_pos (bz ba oa bb ob : Nat) (x y : Int) (m : Nat) (w : World) (hz : RSlot w bz) (hx : IntAt w ba oa x) (hy : IntAt w bb ob y) (hy0 : 0 < y) (hx1 : x.natAbs < pw m) (hy1 : y.natAbs < pw m) (hm' : m ≤ 100000000) :
    Calls Tryz.prog 31 #[.pointer (some ⟨bz, 0, none⟩), .pointer (some ⟨ba, oa, none⟩), .pointer (some ⟨bb, ob, none⟩)] w fun e w' => e = .returned (.pointer (some ⟨bz, 0, none⟩)) ∧ ∃ P Q : Int, RatAt w' bz P Q ∧ 0 < Q ∧ P * y = x * Q ∧ Nat.gcd P.natAbs Q.natAbs = 1 ∧ P.natAbs ≤ x.natAbs ∧ Q.natAbs ≤ y.natAbs ∧ Upd bz w w' := by
  obtain ⟨ya, yl, yc, cy0, cy1, ny, hyl⟩ := hy.open
  have hylp : 0 < yl := hyl.2 (Int.natAbs_pos.2 (by omega))
  have hyb : ((yl : Int) == 0) = false := beq_eq_false_iff_ne.2 (by intro e; have e' : yl = 0 := by exact_mod_cast e
                                                                    exact absurd e' (Nat.ne_of_gt hylp))
  have HZ : Hid (RSlot w bz) := hz
  have HX : Hid (IntAt w ba oa x) := hx
  have HY : Hid (IntAt w bb ob y) := hy
  have HX1 : Hid (x.natAbs < pw m) := hx1
  have HY1 : Hid (y.natAbs < pw m) := hy1
  have HLT : Hid (bz < w.heap.size) := hz.lt
  clear hz hx hy hx1 hy1 ny hyl
  have ka : Below w.heap.size w (w.alloc (.cells #[.bool false, .slice none 0 0] 55)) := (Below.refl _ _).alloc (Nat.le_refl _) _
  have HSa : Hid (Calls Tryz.prog 57 #[.pointer (some ⟨w.heap.size, 0, none⟩), .pointer (some ⟨ba, oa, none⟩)] (w.alloc (.cells #[.bool false, .slice none 0 0] 55)) fun e w' => e = .returned (.pointer (some ⟨w.heap.size, 0, none⟩)) ∧ BigAt w' w.heap.size x ∧ Upd w.heap.size (w.alloc (.cells #[.bool false, .slice none 0 0] 55)) w') := Set_at oa w.heap.size ba x m _ (slot_new w _ _) (HX.out.below ka (Nat.le_refl _)) HX1.out hm'
  go_enter Tryz.func31, Tryz.ntmps31
  go_wp2_with fail
  refine HSa.out.mono ?_
  rintro e w1 ⟨rfl, h1, u1⟩
  have K1 : Below w.heap.size w w1 := ka.trans (u1.below (by simp) (Nat.le_refl _))
  have HK1 : Hid (Below w.heap.size w w1) := K1
  have HB1 : Hid (BigAt w1 w.heap.size x) := h1
  have kb : Below w1.heap.size w1 (w1.alloc (.cells #[.bool false, .slice none 0 0] 55)) := (Below.refl _ _).alloc (Nat.le_refl _) _
  have HSb : Hid (Calls Tryz.prog 57 #[.pointer (some ⟨w1.heap.size, 0, none⟩), .pointer (some ⟨bb, ob, none⟩)] (w1.alloc (.cells #[.bool false, .slice none 0 0] 55)) fun e w' => e = .returned (.pointer (some ⟨w1.heap.size, 0, none⟩)) ∧ BigAt w' w1.heap.size y ∧ Upd w1.heap.size (w1.alloc (.cells #[.bool false, .slice none 0 0] 55)) w') := Set_at ob w1.heap.size bb y m _ (slot_new w1 _ _) ((HY.out.below K1 (Nat.le_refl _)).below kb (Nat.le_refl _)) HY1.out hm'
  clear h1 u1 K1 ka HSa
  go_wp2_with fail
  refine HSb.out.mono ?_
  rintro e w2 ⟨rfl, h2, u2⟩
  have K2 : Below w1.heap.size w1 w2 := kb.trans (u2.below (by simp) (Nat.le_refl _))
  have HK2 : Hid (Below w.heap.size w w2) := HK1.out.trans (K2.mono HK1.out.size)
  have B1 : BigAt w2 w.heap.size x := HB1.out.below K2 (Nat.le_refl _)
  obtain ⟨sx, hsx, nsx⟩ := B1
  obtain ⟨sy, hsy, nsy⟩ := h2
  obtain ⟨xa, xl, xc, hxs, _⟩ := nsx.shape
  obtain ⟨va, vl, vc, hys, _⟩ := nsy.shape
  subst hxs hys
  have hne1 : w.heap.size ≠ bz := by have := HLT.out; omega
  have hne2 : w1.heap.size ≠ bz := by have := HLT.out; have := HK1.out.size; omega
  have CX : Cl w.heap.size [.bool (decide (x < 0)), .slice xa xl xc] 55 w2 := hsx
  have CY : Cl w1.heap.size [.bool (decide (y < 0)), .slice va vl vc] 55 w2 := hsy
  obtain ⟨z0, z1, z2, z3, CZ⟩ := HZ.out.below HK2.out
  have HCZ : Hid (Cl bz [z0, z1, z2, z3] 60 w2) := CZ
  have HCX : Hid (Cl w.heap.size [.bool (decide (x < 0)), .slice xa xl xc] 55 w2) := CX
  have HCY : Hid (Cl w1.heap.size [.bool (decide (y < 0)), .slice va vl vc] 55 w2) := CY
  have HNX : Hid (NS w2 (.slice xa xl xc) x.natAbs) := nsx
  have HNY : Hid (NS w2 (.slice va vl vc) y.natAbs) := nsy
  have a0 := CX.cell 0
  have a1 := CX.cell 1
  have b0 : ∀ u v : Value, ((w2.setCell ⟨bz, 0, none⟩ u).setCell ⟨bz, 1, none⟩ v).cell? ⟨w1.heap.size, 0, none⟩ = some (.bool (decide (y < 0))) := fun u v => ((CY.other hne2 u).other hne2 v).cell 0
  have b1 : ∀ u v : Value, ((w2.setCell ⟨bz, 0, none⟩ u).setCell ⟨bz, 1, none⟩ v).cell? ⟨w1.heap.size, 1, none⟩ = some (.slice va vl vc) := fun u v => ((CY.other hne2 u).other hne2 v).cell 1
  have c0 := CZ.cell 0
  have c1 := CZ.cell 1
  have f0 := CZ.frozen 0
  have f1 := CZ.frozen 1
  have d2 : ∀ u v : Value, ((w2.setCell ⟨bz, 0, none⟩ u).setCell ⟨bz, 1, none⟩ v).cell? ⟨bz, 2, none⟩ = some z2 := fun u v => ((CZ.set 0 u).set 1 v).cell 2
  have d3 : ∀ u v : Value, ((w2.setCell ⟨bz, 0, none⟩ u).setCell ⟨bz, 1, none⟩ v).cell? ⟨bz, 3, none⟩ = some z3 := fun u v => ((CZ.set 0 u).set 1 v).cell 3
  have g2 : ∀ u v : Value, ((w2.setCell ⟨bz, 0, none⟩ u).setCell ⟨bz, 1, none⟩ v).frozen? ⟨bz, 2, none⟩ = false := fun u v => ((CZ.set 0 u).set 1 v).frozen 2
  have g3 : ∀ u v : Value, ((w2.setCell ⟨bz, 0, none⟩ u).setCell ⟨bz, 1, none⟩ v).frozen? ⟨bz, 3, none⟩ = false := fun u v => ((CZ.set 0 u).set 1 v).frozen 3
  simp only [List.getElem?_cons_succ, List.getElem?_cons_zero] at a0 a1 c0 c1
  clear hsx hsy nsx nsy CX CY CZ u2 kb K2 HSb hne1 hne2
  go_wp2_with fail
  obtain ⟨W3, hW3⟩ : ∃ W3, W3 = ((((w2.setCell ⟨bz, 0, none⟩ (.bool (decide (x < 0)))).setCell ⟨bz, 1, none⟩ (.slice xa xl xc)).setCell ⟨bz, 2, none⟩ (.bool (decide (y < 0)))).setCell ⟨bz, 3, none⟩ (.slice va vl vc)) := ⟨_, rfl⟩
  have C3 : Cl bz [.bool (decide (x < 0)), .slice xa xl xc, .bool (decide (y < 0)), .slice va vl vc] 60 W3 := by
    rw [hW3]; exact (((HCZ.out.set 0 _).set 1 _).set 2 _).set 3 _
  have u3 : Upd bz w2 W3 := by rw [hW3]; exact Upd.setCell (o := 3) (Upd.setCell (o := 2) (Upd.setCell (o := 1) (Upd.setCell (o := 0) (Upd.refl bz w2) _) _) _) _
  have R3 : RatAt W3 bz x y := ⟨_, _, C3, HNX.out.updR u3 HCZ.out, HNY.out.updR u3 HCZ.out⟩
  have HU3 : Hid (Upd bz w W3) := (Upd.of_below HK2.out).trans u3
  rw [← hW3]
  refine (norm_pos bz x y m W3 R3 hy0 HX1.out HY1.out hm').mono ?_
  rintro e w4 ⟨rfl, P, Q, h1, h2, h3, h4, h5, h6, u4⟩
  have HF : Hid (∃ P Q : Int, RatAt w4 bz P Q ∧ 0 < Q ∧ P * y = x * Q ∧ Nat.gcd P.natAbs Q.natAbs = 1 ∧ P.natAbs ≤ x.natAbs ∧ Q.natAbs ≤ y.natAbs ∧ Upd bz w w4) := ⟨P, Q, h1, h2, h3, h4, h5, h6, HU3.out.trans u4⟩
  clear h1 h2 h3 h4 h5 h6 u4 u3 R3 C3 hW3
  go_wp2
  go_ret
  exact ⟨rfl, HF.out⟩
end Go.Proofs.YtcnfhndejkngkaaGreatDoor
end

section
set_option linter.unusedSimpArgs false
set_option linter.unusedVariables false
set_option maxRecDepth 100000
namespace Go.Proofs.YtcnfhndejkngkaaGreatDoor
open Go.RowKit
theorem den_pos (b : Nat) (p q : Int) (w : World) (hz : RatAt w b p q) (hq : 0 < q) :
    Calls Tryz.prog 58 #[.pointer (some ⟨b, 0, none⟩)] w fun e w' => e = .returned (.pointer (some ⟨b, 2, none⟩)) ∧ w' = w := by
  obtain ⟨ya, yl, yc, cy0, cy1, ny, hyl⟩ := hz.den.open
  have hylp : 0 < yl := hyl.2 (Int.natAbs_pos.2 (by omega))
  have hyb : ((yl : Int) == 0) = false := beq_eq_false_iff_ne.2 (by intro e; have e' : yl = 0 := by exact_mod_cast e
                                                                    exact absurd e' (Nat.ne_of_gt hylp))
  simp only [Nat.reduceAdd] at cy1
  clear hz ny hyl cy0
  go_enter Tryz.func58, Tryz.ntmps58
  go_wp2
  go_ret
  exact ⟨rfl, rfl⟩
theorem Num_any (b : Nat) (w : World) (hb : b < w.heap.size) :
    Calls Tryz.prog 26 #[.pointer (some ⟨b, 0, none⟩)] w fun e w' => e = .returned (.pointer (some ⟨b, 0, none⟩)) ∧ w' = w := by
  go_enter Tryz.func26, Tryz.ntmps26
  go_wp2
  go_ret
  exact ⟨rfl, rfl⟩
structure Rt (w : World) (b : Nat) (P Q : Int) : Prop where
  at' : RatAt w b P Q
  pos : 0 < Q
  low : Nat.gcd P.natAbs Q.natAbs = 1
theorem Rt.below {w w' : World} {b : Nat} {P Q : Int} (h : Rt w b P Q) (k : Below w.heap.size w w') : Rt w' b P Q := ⟨h.at'.below k, h.pos, h.low⟩
theorem low_uniq {P Q p q : Int} (hQ : 0 < Q) (hq : 0 < q) (h : P * q = p * Q) (h1 : Nat.gcd P.natAbs Q.natAbs = 1) (h2 : Nat.gcd p.natAbs q.natAbs = 1) : P = p ∧ Q = q := by
  have hd1 : Q.natAbs ∣ q.natAbs := by
    refine Nat.Coprime.dvd_of_dvd_mul_left (show Nat.Coprime Q.natAbs P.natAbs by rw [Nat.Coprime, Nat.gcd_comm]; exact h1) ?_
    refine ⟨p.natAbs, ?_⟩
    rw [← Int.natAbs_mul, h, Int.natAbs_mul, Nat.mul_comm]
  have hd2 : q.natAbs ∣ Q.natAbs := by
    refine Nat.Coprime.dvd_of_dvd_mul_left (show Nat.Coprime q.natAbs p.natAbs by rw [Nat.Coprime, Nat.gcd_comm]; exact h2) ?_
    refine ⟨P.natAbs, ?_⟩
    rw [← Int.natAbs_mul, ← h, Int.natAbs_mul, Nat.mul_comm]
  have e : Q.natAbs = q.natAbs := Nat.dvd_antisymm hd1 hd2
  have e2 : Q = q := by omega
  subst e2
  exact ⟨Int.eq_of_mul_eq_mul_right (by omega) h, rfl⟩
end Go.Proofs.YtcnfhndejkngkaaGreatDoor
end

section
set_option linter.unusedSimpArgs false
set_option linter.unusedVariables false
set_option maxRecDepth 100000
namespace Go.Proofs.YtcnfhndejkngkaaGreatDoor
open Go.RowKit
set_option maxHeartbeats 1000000 in
theorem Denom_pos (b : Nat) (p q : Int) (m : Nat) (w : World) (hx : RatAt w b p q) (hq : 0 < q) (hq1 : q.natAbs < pw m) (hm' : m ≤ 100000000) :
    Calls Tryz.prog 25 #[.pointer (some ⟨b, 0, none⟩)] w fun e w' => ∃ b', e = .returned (.pointer (some ⟨b', 0, none⟩)) ∧ Made w w' b' q := by
  have ka : Below w.heap.size w (w.alloc (.cells #[.bool false, .slice none 0 0] 55)) := (Below.refl _ _).alloc (Nat.le_refl _) _
  have HD : Hid (Calls Tryz.prog 58 #[.pointer (some ⟨b, 0, none⟩)] (w.alloc (.cells #[.bool false, .slice none 0 0] 55)) fun e w' => e = .returned (.pointer (some ⟨b, 2, none⟩)) ∧ w' = w.alloc (.cells #[.bool false, .slice none 0 0] 55)) := den_pos b p q _ (hx.below ka) hq
  have HS : Hid (Calls Tryz.prog 57 #[.pointer (some ⟨w.heap.size, 0, none⟩), .pointer (some ⟨b, 2, none⟩)] (w.alloc (.cells #[.bool false, .slice none 0 0] 55)) fun e w' => e = .returned (.pointer (some ⟨w.heap.size, 0, none⟩)) ∧ BigAt w' w.heap.size q ∧ Upd w.heap.size (w.alloc (.cells #[.bool false, .slice none 0 0] 55)) w') := Set_at 2 w.heap.size b q m _ (slot_new w _ _) ((hx.below ka).den) hq1 hm'
  clear hx hq1
  go_enter Tryz.func25, Tryz.ntmps25
  go_wp2_with fail
  refine HD.out.mono ?_
  rintro e w1 ⟨rfl, hw1⟩
  rw [hw1]
  clear hw1 w1
  go_wp2_with fail
  refine HS.out.mono ?_
  rintro e w2 ⟨rfl, h2, u2⟩
  have HM : Hid (Made w w2 w.heap.size q) := ⟨Nat.le_refl _, h2, ka.trans (u2.below (by simp) (Nat.le_refl _))⟩
  clear h2 u2 ka
  go_wp2
  go_ret
  exact ⟨_, rfl, HM.out⟩
end Go.Proofs.YtcnfhndejkngkaaGreatDoor
end

section
set_option linter.unusedSimpArgs false
set_option linter.unusedVariables false
set_option maxRecDepth 100000
namespace Go.Proofs.YtcnfhndejkngkaaGreatDoor
open Go.RowKit
section
variable {P : Program} {ops : Array Oper} {Q : Exit → Act → World → Prop} {md : Region.Mode} {S : World → Prop}
def StepG (P : Program) (ops : Array Oper) (Q : Exit → Act → World → Prop) (S : World → Prop) (g : Nat) (I : Nat → Array Bool → Act → World → Prop) (n : Nat) (l : Array Bool) (a : Act) (w : World) (i : Nat) : Prop :=
  ∃ o, ops[i]? = some o ∧ ∀ K' : Act → World → Prop, Hid (∀ a w, (l.getD g false = false → i ≠ g → S w) → I n (l.setIfInBounds i true) a w → K' a w) → if Region.wanted o (yielded ops a.tmps) = true then Oper.wp P o a w K' Q else K' (a.put o.dst undef) w
theorem wpAnyG_inv {g : Nat} (I : Nat → Array Bool → Act → World → Prop)
    (h : ∀ n l a w, I n l a w → (Region.ready md ops l = [] ∧ Q .normal a w) ∨ (∃ m L, n = m + 1 ∧ Region.ready md ops l = L ∧ L ≠ [] ∧ ∀ i ∈ L, StepG P ops Q S g I m l a w i)) :
    ∀ n l a w, I n l a w → wpAnyG P md ops Q S g n l a w := by
  intro n
  induction n with
  | zero =>
    intro l a w hi
    rcases h 0 l a w hi with h1 | ⟨m, L, h1, _⟩
    · exact h1
    · omega
  | succ n ih =>
    intro l a w hi
    rcases h (n + 1) l a w hi with ⟨h1, h2⟩ | ⟨m, L, h1, h2, h3, h4⟩
    · exact wpAnyG_done h1 h2 _
    · obtain rfl : n = m := by omega
      refine ⟨fun h0 => (h3 (h2.symm.trans h0)).elim, fun i hi' => ?_⟩
      rw [h2] at hi'
      obtain ⟨o, ho, hs⟩ := h4 i hi'
      exact wpOp_step ho fun K' hK => hs K' (fun a w h1 h2 => hK a w ⟨h1, ih _ _ _ h2⟩)
end
end Go.Proofs.YtcnfhndejkngkaaGreatDoor
end

section
set_option linter.unusedSimpArgs false
set_option linter.unusedVariables false
set_option maxRecDepth 100000
namespace Go.Proofs.YtcnfhndejkngkaaGreatDoor
open Go.RowKit
theorem mul_pw {x y : Int} {m n : Nat} (h1 : x.natAbs < pw m) (h2 : y.natAbs < pw n) : (x * y).natAbs < pw (m + n) := by
  rw [Int.natAbs_mul, pw_add]
  rcases Nat.eq_zero_or_pos y.natAbs with h | h
  · rw [h, Nat.mul_zero]; exact Nat.mul_pos (pw_pos m) (pw_pos n)
  · exact Nat.mul_lt_mul_of_lt_of_le h1 (Nat.le_of_lt h2) (pw_pos n)
structure Rb (P Q p q : Int) (m : Nat) : Prop where
  P : P.natAbs < pw m
  Q : Q.natAbs < pw m
  p : p.natAbs < pw m
  q : q.natAbs < pw m
  m : m ≤ 40000000
theorem Rb.m1 {P Q p q : Int} {m : Nat} (h : Rb P Q p q m) : m ≤ 100000000 ∧ m + m ≤ 100000000 ∧ m + m + 1 ≤ 100000000 := by have := h.m; omega
end Go.Proofs.YtcnfhndejkngkaaGreatDoor
end
