import Derived.Test.YtcnfhndejkngkaaGreatDoorJpM
set_option linter.unusedSimpArgs false
set_option linter.unusedVariables false
set_option maxRecDepth 100000
namespace Go.Proofs.YtcnfhndejkngkaaGreatDoor
open Go.RowKit
set_option maxHeartbeats 4000000 in
theorem norm_neg (b : Nat) (p q : Int) (m : Nat) (w0 : World) (hz0 : RatAt w0 b (-p) (-q)) (hq : 0 < q) (hp1 : p.natAbs < pw m) (hq1 : q.natAbs < pw m) (hm' : m ≤ 100000000) :
    Calls Tryz.prog 61 #[.pointer (some ⟨b, 0, none⟩)] w0 fun e w' => e = .returned (.pointer (some ⟨b, 0, none⟩)) ∧ ∃ w1, Upd b w0 w1 ∧ ∃ P Q : Int, RatAt w' b P Q ∧ 0 < Q ∧ P * q = p * Q ∧ Nat.gcd P.natAbs Q.natAbs = 1 ∧ P.natAbs ≤ p.natAbs ∧ Q.natAbs ≤ q.natAbs ∧ Upd b w1 w' := by
  obtain ⟨ya0, yl0, yc0, d0, d1, _, hyl0⟩ := hz0.den.open
  have hy0 : ((yl0 : Int) == 0) = false := beq_eq_false_iff_ne.2 (by omega)
  have hd0 : decide (-q < 0) = true := decide_eq_true (by omega)
  rw [hd0] at d0
  simp only [Nat.reduceAdd] at d1
  have hbl := hz0.num.lt
  have HZ0 : Hid (RatAt w0 b (-p) (-q)) := hz0
  have HN1 : Hid (∀ W, RatAt W b (-p) (-q) → Calls Tryz.prog 90 #[.pointer (some ⟨b, 0, none⟩), .pointer (some ⟨b, 0, none⟩)] W fun e w' => e = .returned (.pointer (some ⟨b, 0, none⟩)) ∧ RatAt w' b p (-q) ∧ Upd b W w') := fun W h => by
    have := Neg_num b (-p) (-q) m W h (by rw [Int.natAbs_neg]; exact hp1) hm'
    rw [Int.neg_neg] at this; exact this
  have HN2 : Hid (∀ W, RatAt W b p (-q) → Calls Tryz.prog 90 #[.pointer (some ⟨b, 2, none⟩), .pointer (some ⟨b, 2, none⟩)] W fun e w' => e = .returned (.pointer (some ⟨b, 2, none⟩)) ∧ RatAt w' b p q ∧ Upd b W w') := fun W h => by
    have := Neg_den b p (-q) m W h (by rw [Int.natAbs_neg]; exact hq1) hm'
    rw [Int.neg_neg] at this; exact this
  clear hz0 hyl0 hd0
  go_enter Tryz.func61, Tryz.ntmps61
  go_wp2_with fail
  refine wp_region_G (fun w' => b < w'.heap.size) 6 (by kernel_rfl) (by simpa using hbl) (fun hHeld => ?_)
  refine wpAnyG_take (i := 0) (v := ?v0x1) rfl (by kernel_rfl) (fun _ _ _ h => h) (Or.inl ⟨by rfl, ?y0x1⟩) hHeld ?r0x1
  case y0x1 => (intro wS hSw; obtain s1 := hSw; go_simp; try with_reducible rfl)
  try simp only [Act.put, List.setIfInBounds_toArray, List.set_cons_zero, List.set_cons_succ]
  refine wpAnyG_take (i := 1) (v := ?v1x2) rfl (by kernel_rfl) (fun _ _ _ h => h) (Or.inl ⟨by rfl, ?y1x2⟩) hHeld ?r1x2
  case y1x2 => (intro wS hSw; obtain s1 := hSw; go_simp; try with_reducible rfl)
  try simp only [Act.put, List.setIfInBounds_toArray, List.set_cons_zero, List.set_cons_succ]
  refine wpAnyG_take (i := 2) (v := ?v2x3) rfl (by kernel_rfl) (fun _ _ _ h => h) (Or.inl ⟨by rfl, ?y2x3⟩) hHeld ?r2x3
  case y2x3 => (intro wS hSw; obtain s1 := hSw; go_simp; try with_reducible rfl)
  try simp only [Act.put, List.setIfInBounds_toArray, List.set_cons_zero, List.set_cons_succ]
  refine wpAnyG_take (i := 3) (v := ?v3x4) rfl (by kernel_rfl) (fun _ _ _ h => h) (Or.inl ⟨by rfl, ?y3x4⟩) hHeld ?r3x4
  case y3x4 => (intro wS hSw; obtain s1 := hSw; go_simp; try with_reducible rfl)
  try simp only [Act.put, List.setIfInBounds_toArray, List.set_cons_zero, List.set_cons_succ]
  refine wpAnyG_take (i := 4) (v := ?v4x5) rfl (by kernel_rfl) (fun _ _ _ h => h) (Or.inl ⟨by rfl, ?y4x5⟩) hHeld ?r4x5
  case y4x5 => (intro wS hSw; obtain s1 := hSw; go_simp; try with_reducible rfl)
  try simp only [Act.put, List.setIfInBounds_toArray, List.set_cons_zero, List.set_cons_succ]
  refine wpAnyG_take (i := 5) (v := ?v5x6) rfl (by kernel_rfl) (fun _ _ _ h => h) (Or.inl ⟨by rfl, ?y5x6⟩) hHeld ?r5x6
  case y5x6 => (intro wS hSw; obtain s1 := hSw; go_simp; try with_reducible rfl)
  try simp only [Act.put, List.setIfInBounds_toArray, List.set_cons_zero, List.set_cons_succ]
  refine wpAnyG_last (i := 6) rfl (by kernel_rfl) (by kernel_rfl) (fun K hK => ?_)
  go_simp
  refine (HN1.out _ (HZ0.out.below (Below.refl _ _).drew)).mono ?_
  rintro e w9 ⟨rfl, r9, u9⟩
  have HR9 : Hid (RatAt w9 b p (-q)) := r9
  have HU9 : Hid (Upd b w0 w9) := (Upd.refl b w0).drew.trans u9
  have hbl9 : b < w9.heap.size := r9.num.lt
  clear r9 u9
  refine hK.out _ _ ?_
  clear hK K
  try simp only [Act.put, List.setIfInBounds_toArray, List.set_cons_zero, List.set_cons_succ]
  refine wpAnyG_done (by kernel_rfl) ?_ _
  clear hHeld d0 d1
  go_wp2_with fail
  refine wp_region_G (fun w' => b < w'.heap.size) 6 (by kernel_rfl) (by simpa using hbl9) (fun hHeld => ?_)
  refine wpAnyG_take (i := 0) (v := ?v0x7) rfl (by kernel_rfl) (fun _ _ _ h => h) (Or.inl ⟨by rfl, ?y0x7⟩) hHeld ?r0x7
  case y0x7 => (intro wS hSw; obtain s1 := hSw; go_simp; try with_reducible rfl)
  try simp only [Act.put, List.setIfInBounds_toArray, List.set_cons_zero, List.set_cons_succ]
  refine wpAnyG_take (i := 1) (v := ?v1x8) rfl (by kernel_rfl) (fun _ _ _ h => h) (Or.inl ⟨by rfl, ?y1x8⟩) hHeld ?r1x8
  case y1x8 => (intro wS hSw; obtain s1 := hSw; go_simp; try with_reducible rfl)
  try simp only [Act.put, List.setIfInBounds_toArray, List.set_cons_zero, List.set_cons_succ]
  refine wpAnyG_take (i := 2) (v := ?v2x9) rfl (by kernel_rfl) (fun _ _ _ h => h) (Or.inl ⟨by rfl, ?y2x9⟩) hHeld ?r2x9
  case y2x9 => (intro wS hSw; obtain s1 := hSw; go_simp; try with_reducible rfl)
  try simp only [Act.put, List.setIfInBounds_toArray, List.set_cons_zero, List.set_cons_succ]
  refine wpAnyG_take (i := 3) (v := ?v3x10) rfl (by kernel_rfl) (fun _ _ _ h => h) (Or.inl ⟨by rfl, ?y3x10⟩) hHeld ?r3x10
  case y3x10 => (intro wS hSw; obtain s1 := hSw; go_simp; try with_reducible rfl)
  try simp only [Act.put, List.setIfInBounds_toArray, List.set_cons_zero, List.set_cons_succ]
  refine wpAnyG_take (i := 4) (v := ?v4x11) rfl (by kernel_rfl) (fun _ _ _ h => h) (Or.inl ⟨by rfl, ?y4x11⟩) hHeld ?r4x11
  case y4x11 => (intro wS hSw; obtain s1 := hSw; go_simp; try with_reducible rfl)
  try simp only [Act.put, List.setIfInBounds_toArray, List.set_cons_zero, List.set_cons_succ]
  refine wpAnyG_take (i := 5) (v := ?v5x12) rfl (by kernel_rfl) (fun _ _ _ h => h) (Or.inl ⟨by rfl, ?y5x12⟩) hHeld ?r5x12
  case y5x12 => (intro wS hSw; obtain s1 := hSw; go_simp; try with_reducible rfl)
  try simp only [Act.put, List.setIfInBounds_toArray, List.set_cons_zero, List.set_cons_succ]
  refine wpAnyG_last (i := 6) rfl (by kernel_rfl) (by kernel_rfl) (fun K hK => ?_)
  go_simp
  refine (HN2.out _ (HR9.out.below (Below.refl _ _).drew)).mono ?_
  rintro e w ⟨rfl, r, u⟩
  have hz : RatAt w b p q := r
  have HU0 : Hid (Upd b w0 w) := HU9.out.trans ((Upd.refl b w9).drew.trans u)
  clear r u
  refine hK.out _ _ ?_
  clear hK K
  try simp only [Act.put, List.setIfInBounds_toArray, List.set_cons_zero, List.set_cons_succ]
  refine wpAnyG_done (by kernel_rfl) ?_ _
  clear hHeld hbl hbl9 hy0
  obtain ⟨ya, yl, yc, cy0, cy1, ny, hyl⟩ := hz.den.open
  obtain ⟨xa, xl, xc, cx0, cx1, nx, hxl⟩ := hz.num.open
  have HZ : Hid (RatAt w b p q) := hz
  have hy1 : ((yl : Int) == 0) = false := beq_eq_false_iff_ne.2 (by omega)
  have hylp : 0 < yl := by omega
  have hd : decide (q < 0) = false := decide_eq_false (by omega)
  rw [hd] at cy0
  have HNX : Hid (NS w (.slice xa xl xc) p.natAbs) := nx
  have HC0 : Hid (Cl b [.bool (decide (p < 0)), .slice xa xl xc, .bool (decide (q < 0)), .slice ya yl yc] 60 w) := by
    obtain ⟨s, t, h1, _, _⟩ := HZ.out
    have e1 : s = .slice xa xl xc := by have h := h1.cell 1; simp only [List.getElem?_cons_succ, List.getElem?_cons_zero] at h; rw [cx1] at h; exact (Option.some.inj h).symm
    have e2 : t = .slice ya yl yc := by have h := h1.cell 3; simp only [List.getElem?_cons_succ, List.getElem?_cons_zero] at h; rw [cy1] at h; exact (Option.some.inj h).symm
    rw [e1, e2] at h1
    exact h1
  have HNY : Hid (NS w (.slice ya yl yc) q.natAbs) := ny
  have HP1 : Hid (p.natAbs < pw m) := hp1
  have HQ1 : Hid (q.natAbs < pw m) := hq1
  obtain ⟨qn, hqn⟩ : ∃ qn : Nat, q = qn := ⟨q.toNat, by omega⟩
  have hqa : q.natAbs = qn := by rw [hqn]; rfl
  have hqp : 0 < qn := by omega
  have ny2 : NS w (.slice ya yl yc) qn := hqa ▸ ny
  obtain ⟨o1, o2⟩ := ns_one ny2 hqp
  simp only [Nat.zero_add, Nat.reduceAdd] at cx1 cy1
  clear hz nx ny ny2 hp1 hq1 hd
  by_cases hp0 : p = 0
  · obtain rfl : xl = 0 := by omega
    have HSet : Hid (Calls Tryz.prog 75 #[.pointer (some ⟨b, 2, none⟩), .int .i64 1] w fun e w' => e = .returned (.pointer (some ⟨b, 2, none⟩)) ∧ RatAt w' b p 1 ∧ Upd b w w') := SetInt64_den b p q w HZ.out
    have HPZ : Hid (p = 0) := hp0
    clear hp0 o1 o2
    go_wp2_with fail
    refine HSet.out.mono ?_
    rintro e w1 ⟨rfl, h1, u1⟩
    go_wp2
    go_ret
    exact ⟨rfl, w, HU0.out, p, 1, h1, by omega, by rw [HPZ.out]; simp, by rw [HPZ.out]; rfl, Nat.le_refl _, by show 1 ≤ _; omega, u1⟩
  · have hxlp : 0 < xl := hxl.2 (Int.natAbs_pos.2 hp0)
    have hx1 : ((xl : Int) == 0) = false := beq_eq_false_iff_ne.2 (by intro e; have e' : xl = 0 := by exact_mod_cast e
                                                                      exact absurd e' (Nat.ne_of_gt hxlp))
    have HP0 : Hid (p ≠ 0) := hp0
    clear hp0
    by_cases hq1' : qn = 1
    · obtain ⟨rfl, gy, rfl, cg⟩ := o1 hq1'
      have HQ : Hid (q = 1) := by show q = 1; rw [hqn, hq1']; rfl
      clear o1 o2 hq1'
      go_wp2
      go_ret
      exact ⟨rfl, w, HU0.out, p, q, HZ.out, hq, rfl, (by rw [HQ.out]; exact Nat.gcd_one_right _), Nat.le_refl _, Nat.le_refl _, Upd.refl _ _⟩
    · by_cases hyl1 : yl = 1
      · obtain ⟨yg, yx, rfl, cyx, hyx, hyx2⟩ := o2 hq1' hyl1
        subst hyl1
        have hyb : ((yx : Int) == 1) = false := beq_eq_false_iff_ne.2 (by intro e; exact hyx (by exact_mod_cast e))
        clear o1 o2 hyx hq1'
        go_wp2_with fail
        refine wp_region_G (fun w' => w'.cell? ⟨b, 1, none⟩ = some (.slice xa xl xc) ∧ w'.cell? ⟨b, 3, none⟩ = some (.slice (some ⟨yg, 0, none⟩) 1 yc)) 11 (by kernel_rfl) ⟨cx1, cy1⟩ (fun hHeld => ?_)
        refine wpAnyG_take (i := 0) (v := ?v0x13) rfl (by kernel_rfl) (fun _ _ _ h => h) (Or.inl ⟨by rfl, ?y0x13⟩) hHeld ?r0x13
        case y0x13 => (intro wS hSw; obtain ⟨s1, s2⟩ := hSw; go_simp; try with_reducible rfl)
        try simp only [Act.put, List.setIfInBounds_toArray, List.set_cons_zero, List.set_cons_succ]
        refine wpAnyG_take (i := 1) (v := ?v1x14) rfl (by kernel_rfl) (fun _ _ _ h => h) (Or.inl ⟨by rfl, ?y1x14⟩) hHeld ?r1x14
        case y1x14 => (intro wS hSw; obtain ⟨s1, s2⟩ := hSw; go_simp; try with_reducible rfl)
        try simp only [Act.put, List.setIfInBounds_toArray, List.set_cons_zero, List.set_cons_succ]
        refine wpAnyG_take (i := 2) (v := ?v2x15) rfl (by kernel_rfl) (fun _ _ _ h => h) (Or.inl ⟨by rfl, ?y2x15⟩) hHeld ?r2x15
        case y2x15 => (intro wS hSw; obtain ⟨s1, s2⟩ := hSw; go_simp; try with_reducible rfl)
        try simp only [Act.put, List.setIfInBounds_toArray, List.set_cons_zero, List.set_cons_succ]
        refine wpAnyG_take (i := 3) (v := ?v3x16) rfl (by kernel_rfl) (fun _ _ _ h => h) (Or.inl ⟨by rfl, ?y3x16⟩) hHeld ?r3x16
        case y3x16 => (intro wS hSw; obtain ⟨s1, s2⟩ := hSw; go_simp; try with_reducible rfl)
        try simp only [Act.put, List.setIfInBounds_toArray, List.set_cons_zero, List.set_cons_succ]
        refine wpAnyG_take (i := 4) (v := ?v4x17) rfl (by kernel_rfl) (fun _ _ _ h => h) (Or.inl ⟨by rfl, ?y4x17⟩) hHeld ?r4x17
        case y4x17 => (intro wS hSw; obtain ⟨s1, s2⟩ := hSw; go_simp; try with_reducible rfl)
        try simp only [Act.put, List.setIfInBounds_toArray, List.set_cons_zero, List.set_cons_succ]
        refine wpAnyG_take (i := 5) (v := ?v5x18) rfl (by kernel_rfl) (fun _ _ _ h => h) (Or.inl ⟨by rfl, ?y5x18⟩) hHeld ?r5x18
        case y5x18 => (intro wS hSw; obtain ⟨s1, s2⟩ := hSw; go_simp; try with_reducible rfl)
        try simp only [Act.put, List.setIfInBounds_toArray, List.set_cons_zero, List.set_cons_succ]
        refine wpAnyG_take (i := 6) (v := ?v6x19) rfl (by kernel_rfl) (fun _ _ _ h => h) (Or.inl ⟨by rfl, ?y6x19⟩) hHeld ?r6x19
        case y6x19 => (intro wS hSw; obtain ⟨s1, s2⟩ := hSw; go_simp; try with_reducible rfl)
        try simp only [Act.put, List.setIfInBounds_toArray, List.set_cons_zero, List.set_cons_succ]
        refine wpAnyG_take (i := 7) (v := ?v7x20) rfl (by kernel_rfl) (fun _ _ _ h => h) (Or.inl ⟨by rfl, ?y7x20⟩) hHeld ?r7x20
        case y7x20 => (intro wS hSw; obtain ⟨s1, s2⟩ := hSw; go_simp; try with_reducible rfl)
        try simp only [Act.put, List.setIfInBounds_toArray, List.set_cons_zero, List.set_cons_succ]
        refine wpAnyG_take (i := 8) (v := ?v8x21) rfl (by kernel_rfl) (fun _ _ _ h => h) (Or.inl ⟨by rfl, ?y8x21⟩) hHeld ?r8x21
        case y8x21 => (intro wS hSw; obtain ⟨s1, s2⟩ := hSw; go_simp; try with_reducible rfl)
        try simp only [Act.put, List.setIfInBounds_toArray, List.set_cons_zero, List.set_cons_succ]
        refine wpAnyG_take (i := 9) (v := ?v9x22) rfl (by kernel_rfl) (fun _ _ _ h => h) (Or.inl ⟨by rfl, ?y9x22⟩) hHeld ?r9x22
        case y9x22 => (intro wS hSw; obtain ⟨s1, s2⟩ := hSw; go_simp; try with_reducible rfl)
        try simp only [Act.put, List.setIfInBounds_toArray, List.set_cons_zero, List.set_cons_succ]
        refine wpAnyG_one (i := 10) rfl (by kernel_rfl) (fun K hK => ?_)
        go_simp
        have kd : Below w.heap.size w w.drew := (Below.refl _ _).drew
        refine (common_any _ _ p.natAbs q.natAbs m _ (HNX.out.below kd (Nat.le_refl _)) (HNY.out.below kd (Nat.le_refl _)) HP1.out HQ1.out hm' (Int.natAbs_pos.2 HP0.out)).mono ?_
        rintro e w1 ⟨r, rfl, nr, k1⟩
        have K1 : Below w.heap.size w w1 := kd.trans (k1.mono (by simp))
        obtain ⟨G, hG⟩ : ∃ G, G = Nat.gcd p.natAbs q.natAbs := ⟨_, rfl⟩
        rw [← hG] at nr
        have HGE : Hid (G = Nat.gcd p.natAbs q.natAbs) := hG
        have HG0 : Hid (0 < G) := by rw [hG]; exact Nat.gcd_pos_of_pos_left _ (Int.natAbs_pos.2 HP0.out)
        have HGM : Hid (G < pw m) := Nat.lt_of_le_of_lt (by rw [hG]; exact Nat.gcd_le_left _ (Int.natAbs_pos.2 HP0.out)) HP1.out
        obtain ⟨ga, gl, gc, rfl, _⟩ := nr.shape
        have NG : Hid (NS w1 (.slice ga gl gc) G) := nr
        have NX1 : Hid (NS w1 (.slice xa xl xc) p.natAbs) := HNX.out.below K1 (Nat.le_refl _)
        have NY1 : Hid (NS w1 (.slice (some ⟨yg, 0, none⟩) 1 yc) q.natAbs) := HNY.out.below K1 (Nat.le_refl _)
        have HC1 : Hid (Cl b [.bool (decide (p < 0)), .slice xa xl xc, .bool (decide (q < 0)), .slice (some ⟨yg, 0, none⟩) 1 yc] 60 w1) := HC0.out.below K1
        have HU1 : Hid (Upd b w w1) := Upd.of_below K1
        obtain ⟨g1, g2⟩ := ns_one nr HG0.out
        clear hHeld
        have hHeld : w1.cell? ⟨b, 1, none⟩ = some (.slice xa xl xc) ∧ w1.cell? ⟨b, 3, none⟩ = some (.slice (some ⟨yg, 0, none⟩) 1 yc) := ⟨HC1.out.cell 1, HC1.out.cell 3⟩
        have z1 := hHeld.1
        have z3 := hHeld.2
        clear nr k1 K1 hG kd
        refine hK.out _ _ hHeld ?_
        clear hK K
        try simp only [Act.put, List.setIfInBounds_toArray, List.set_cons_zero, List.set_cons_succ]
        refine wpAnyG_last (i := 11) rfl (by kernel_rfl) (by kernel_rfl) (fun K hK => ?_)
        go_simp
        refine hK.out _ _ ?_
        clear hK K
        try simp only [Act.put, List.setIfInBounds_toArray, List.set_cons_zero, List.set_cons_succ]
        refine wpAnyG_done (by kernel_rfl) ?_ _
        clear hHeld
        by_cases hG1 : G = 1
        · obtain ⟨gl1, gg, rfl, cg⟩ := g1 hG1
          subst gl1
          have HE : Hid (G = 1) := hG1
          clear g1 g2 hG1
          go_wp2
          go_ret
          exact ⟨rfl, w, HU0.out, p, q, ⟨_, _, HC1.out, NX1.out, NY1.out⟩, hq, rfl, HGE.out.symm.trans HE.out, Nat.le_refl _, Nat.le_refl _, HU1.out⟩
        · by_cases hgl : gl = 1
          · obtain ⟨gg, gx, rfl, cg, hgx, hgx2⟩ := g2 hG1 hgl
            subst hgl
            have hgb : ((gx : Int) == 1) = false := beq_eq_false_iff_ne.2 (by intro e; exact hgx (by exact_mod_cast e))
            clear g1 g2 hG1 hgx
            go_wp2_with fail
            refine (div_any _ _ p.natAbs G m m w1 (NX1.out) NG.out HP1.out HGM.out hm' hm' HG0.out).mono ?_
            rintro e w2 ⟨p', r1, rfl, np, nr, k2⟩
            obtain ⟨pa, pl, pc, rfl, _⟩ := np.shape
            obtain ⟨ra, rl, rc, rfl, _⟩ := nr.shape
            have C2 : Cl b [.bool (decide (p < 0)), .slice xa xl xc, .bool (decide (q < 0)), .slice (some ⟨yg, 0, none⟩) 1 yc] 60 w2 := HC1.out.below k2
            have HC2 : Hid (Cl b [.bool (decide (p < 0)), .slice xa xl xc, .bool (decide (q < 0)), .slice (some ⟨yg, 0, none⟩) 1 yc] 60 w2) := C2
            have NP2 : Hid (NS w2 (.slice pa pl pc) (p.natAbs / G)) := np
            have NY2 : Hid (NS w2 (.slice (some ⟨yg, 0, none⟩) 1 yc) q.natAbs) := NY1.out.below k2 (Nat.le_refl _)
            have NG2 : Hid (NS w2 (.slice (some ⟨gg, 0, none⟩) 1 gc) G) := NG.out.below k2 (Nat.le_refl _)
            have HU2 : Hid (Upd b w w2) := HU1.out.trans (Upd.of_below k2)
            have y3 := C2.cell 3
            have y1 := C2.cell 1
            simp only [List.getElem?_cons_succ, List.getElem?_cons_zero] at y3 y1
            clear np nr k2 C2 z1 z3
            go_wp2_with fail
            refine (div_any _ _ q.natAbs G m m w2 NY2.out NG2.out HQ1.out HGM.out hm' hm' HG0.out).mono ?_
            rintro e w3 ⟨q', r2, rfl, nq, nr, k3⟩
            obtain ⟨qa, ql, qc, rfl, _⟩ := nq.shape
            obtain ⟨sa, sl, sc, rfl, _⟩ := nr.shape
            have C3 : Cl b [.bool (decide (p < 0)), .slice xa xl xc, .bool (decide (q < 0)), .slice (some ⟨yg, 0, none⟩) 1 yc] 60 w3 := HC2.out.below k3
            have f1 := C3.frozen 1
            have f3 := C3.frozen 3
            clear y1 y3
            have y3 := C3.cell 3
            have y1 := C3.cell 1
            simp only [List.getElem?_cons_succ, List.getElem?_cons_zero] at y3 y1
            have HEnd : Hid (∃ P Q : Int, RatAt ((w3.setCell ⟨b, 1, none⟩ (.slice pa pl pc)).setCell ⟨b, 3, none⟩ (.slice qa ql qc)) b P Q ∧ 0 < Q ∧ P * q = p * Q ∧ Nat.gcd P.natAbs Q.natAbs = 1 ∧ P.natAbs ≤ p.natAbs ∧ Q.natAbs ≤ q.natAbs ∧ Upd b w ((w3.setCell ⟨b, 1, none⟩ (.slice pa pl pc)).setCell ⟨b, 3, none⟩ (.slice qa ql qc))) := norm_end hq HP0.out HGE.out C3 (NP2.out.below k3 (Nat.le_refl _)) nq (HU2.out.trans (Upd.of_below k3))
            clear nq nr k3 C3
            go_wp2
            go_ret
            exact ⟨rfl, w, HU0.out, HEnd.out⟩
          · have hgb : ((gl : Int) == 1) = false := beq_eq_false_iff_ne.2 (by intro e; exact hgl (by exact_mod_cast e))
            clear g1 g2 hG1 hgl
            go_wp2_with fail
            refine (div_any _ _ p.natAbs G m m w1 (NX1.out) NG.out HP1.out HGM.out hm' hm' HG0.out).mono ?_
            rintro e w2 ⟨p', r1, rfl, np, nr, k2⟩
            obtain ⟨pa, pl, pc, rfl, _⟩ := np.shape
            obtain ⟨ra, rl, rc, rfl, _⟩ := nr.shape
            have C2 : Cl b [.bool (decide (p < 0)), .slice xa xl xc, .bool (decide (q < 0)), .slice (some ⟨yg, 0, none⟩) 1 yc] 60 w2 := HC1.out.below k2
            have HC2 : Hid (Cl b [.bool (decide (p < 0)), .slice xa xl xc, .bool (decide (q < 0)), .slice (some ⟨yg, 0, none⟩) 1 yc] 60 w2) := C2
            have NP2 : Hid (NS w2 (.slice pa pl pc) (p.natAbs / G)) := np
            have NY2 : Hid (NS w2 (.slice (some ⟨yg, 0, none⟩) 1 yc) q.natAbs) := NY1.out.below k2 (Nat.le_refl _)
            have NG2 : Hid (NS w2 (.slice ga gl gc) G) := NG.out.below k2 (Nat.le_refl _)
            have HU2 : Hid (Upd b w w2) := HU1.out.trans (Upd.of_below k2)
            have y3 := C2.cell 3
            have y1 := C2.cell 1
            simp only [List.getElem?_cons_succ, List.getElem?_cons_zero] at y3 y1
            clear np nr k2 C2 z1 z3
            go_wp2_with fail
            refine (div_any _ _ q.natAbs G m m w2 NY2.out NG2.out HQ1.out HGM.out hm' hm' HG0.out).mono ?_
            rintro e w3 ⟨q', r2, rfl, nq, nr, k3⟩
            obtain ⟨qa, ql, qc, rfl, _⟩ := nq.shape
            obtain ⟨sa, sl, sc, rfl, _⟩ := nr.shape
            have C3 : Cl b [.bool (decide (p < 0)), .slice xa xl xc, .bool (decide (q < 0)), .slice (some ⟨yg, 0, none⟩) 1 yc] 60 w3 := HC2.out.below k3
            have f1 := C3.frozen 1
            have f3 := C3.frozen 3
            clear y1 y3
            have y3 := C3.cell 3
            have y1 := C3.cell 1
            simp only [List.getElem?_cons_succ, List.getElem?_cons_zero] at y3 y1
            have HEnd : Hid (∃ P Q : Int, RatAt ((w3.setCell ⟨b, 1, none⟩ (.slice pa pl pc)).setCell ⟨b, 3, none⟩ (.slice qa ql qc)) b P Q ∧ 0 < Q ∧ P * q = p * Q ∧ Nat.gcd P.natAbs Q.natAbs = 1 ∧ P.natAbs ≤ p.natAbs ∧ Q.natAbs ≤ q.natAbs ∧ Upd b w ((w3.setCell ⟨b, 1, none⟩ (.slice pa pl pc)).setCell ⟨b, 3, none⟩ (.slice qa ql qc))) := norm_end hq HP0.out HGE.out C3 (NP2.out.below k3 (Nat.le_refl _)) nq (HU2.out.trans (Upd.of_below k3))
            clear nq nr k3 C3
            go_wp2
            go_ret
            exact ⟨rfl, w, HU0.out, HEnd.out⟩
      · have hyb : ((yl : Int) == 1) = false := beq_eq_false_iff_ne.2 (by intro e; exact hyl1 (by exact_mod_cast e))
        clear o1 o2 hyl1 hq1'
        go_wp2_with fail
        refine wp_region_G (fun w' => w'.cell? ⟨b, 1, none⟩ = some (.slice xa xl xc) ∧ w'.cell? ⟨b, 3, none⟩ = some (.slice ya yl yc)) 11 (by kernel_rfl) ⟨cx1, cy1⟩ (fun hHeld => ?_)
        refine wpAnyG_take (i := 0) (v := ?v0x23) rfl (by kernel_rfl) (fun _ _ _ h => h) (Or.inl ⟨by rfl, ?y0x23⟩) hHeld ?r0x23
        case y0x23 => (intro wS hSw; obtain ⟨s1, s2⟩ := hSw; go_simp; try with_reducible rfl)
        try simp only [Act.put, List.setIfInBounds_toArray, List.set_cons_zero, List.set_cons_succ]
        refine wpAnyG_take (i := 1) (v := ?v1x24) rfl (by kernel_rfl) (fun _ _ _ h => h) (Or.inl ⟨by rfl, ?y1x24⟩) hHeld ?r1x24
        case y1x24 => (intro wS hSw; obtain ⟨s1, s2⟩ := hSw; go_simp; try with_reducible rfl)
        try simp only [Act.put, List.setIfInBounds_toArray, List.set_cons_zero, List.set_cons_succ]
        refine wpAnyG_take (i := 2) (v := ?v2x25) rfl (by kernel_rfl) (fun _ _ _ h => h) (Or.inl ⟨by rfl, ?y2x25⟩) hHeld ?r2x25
        case y2x25 => (intro wS hSw; obtain ⟨s1, s2⟩ := hSw; go_simp; try with_reducible rfl)
        try simp only [Act.put, List.setIfInBounds_toArray, List.set_cons_zero, List.set_cons_succ]
        refine wpAnyG_take (i := 3) (v := ?v3x26) rfl (by kernel_rfl) (fun _ _ _ h => h) (Or.inl ⟨by rfl, ?y3x26⟩) hHeld ?r3x26
        case y3x26 => (intro wS hSw; obtain ⟨s1, s2⟩ := hSw; go_simp; try with_reducible rfl)
        try simp only [Act.put, List.setIfInBounds_toArray, List.set_cons_zero, List.set_cons_succ]
        refine wpAnyG_take (i := 4) (v := ?v4x27) rfl (by kernel_rfl) (fun _ _ _ h => h) (Or.inl ⟨by rfl, ?y4x27⟩) hHeld ?r4x27
        case y4x27 => (intro wS hSw; obtain ⟨s1, s2⟩ := hSw; go_simp; try with_reducible rfl)
        try simp only [Act.put, List.setIfInBounds_toArray, List.set_cons_zero, List.set_cons_succ]
        refine wpAnyG_take (i := 5) (v := ?v5x28) rfl (by kernel_rfl) (fun _ _ _ h => h) (Or.inl ⟨by rfl, ?y5x28⟩) hHeld ?r5x28
        case y5x28 => (intro wS hSw; obtain ⟨s1, s2⟩ := hSw; go_simp; try with_reducible rfl)
        try simp only [Act.put, List.setIfInBounds_toArray, List.set_cons_zero, List.set_cons_succ]
        refine wpAnyG_take (i := 6) (v := ?v6x29) rfl (by kernel_rfl) (fun _ _ _ h => h) (Or.inl ⟨by rfl, ?y6x29⟩) hHeld ?r6x29
        case y6x29 => (intro wS hSw; obtain ⟨s1, s2⟩ := hSw; go_simp; try with_reducible rfl)
        try simp only [Act.put, List.setIfInBounds_toArray, List.set_cons_zero, List.set_cons_succ]
        refine wpAnyG_take (i := 7) (v := ?v7x30) rfl (by kernel_rfl) (fun _ _ _ h => h) (Or.inl ⟨by rfl, ?y7x30⟩) hHeld ?r7x30
        case y7x30 => (intro wS hSw; obtain ⟨s1, s2⟩ := hSw; go_simp; try with_reducible rfl)
        try simp only [Act.put, List.setIfInBounds_toArray, List.set_cons_zero, List.set_cons_succ]
        refine wpAnyG_take (i := 8) (v := ?v8x31) rfl (by kernel_rfl) (fun _ _ _ h => h) (Or.inl ⟨by rfl, ?y8x31⟩) hHeld ?r8x31
        case y8x31 => (intro wS hSw; obtain ⟨s1, s2⟩ := hSw; go_simp; try with_reducible rfl)
        try simp only [Act.put, List.setIfInBounds_toArray, List.set_cons_zero, List.set_cons_succ]
        refine wpAnyG_take (i := 9) (v := ?v9x32) rfl (by kernel_rfl) (fun _ _ _ h => h) (Or.inl ⟨by rfl, ?y9x32⟩) hHeld ?r9x32
        case y9x32 => (intro wS hSw; obtain ⟨s1, s2⟩ := hSw; go_simp; try with_reducible rfl)
        try simp only [Act.put, List.setIfInBounds_toArray, List.set_cons_zero, List.set_cons_succ]
        refine wpAnyG_one (i := 10) rfl (by kernel_rfl) (fun K hK => ?_)
        go_simp
        have kd : Below w.heap.size w w.drew := (Below.refl _ _).drew
        refine (common_any _ _ p.natAbs q.natAbs m _ (HNX.out.below kd (Nat.le_refl _)) (HNY.out.below kd (Nat.le_refl _)) HP1.out HQ1.out hm' (Int.natAbs_pos.2 HP0.out)).mono ?_
        rintro e w1 ⟨r, rfl, nr, k1⟩
        have K1 : Below w.heap.size w w1 := kd.trans (k1.mono (by simp))
        obtain ⟨G, hG⟩ : ∃ G, G = Nat.gcd p.natAbs q.natAbs := ⟨_, rfl⟩
        rw [← hG] at nr
        have HGE : Hid (G = Nat.gcd p.natAbs q.natAbs) := hG
        have HG0 : Hid (0 < G) := by rw [hG]; exact Nat.gcd_pos_of_pos_left _ (Int.natAbs_pos.2 HP0.out)
        have HGM : Hid (G < pw m) := Nat.lt_of_le_of_lt (by rw [hG]; exact Nat.gcd_le_left _ (Int.natAbs_pos.2 HP0.out)) HP1.out
        obtain ⟨ga, gl, gc, rfl, _⟩ := nr.shape
        have NG : Hid (NS w1 (.slice ga gl gc) G) := nr
        have NX1 : Hid (NS w1 (.slice xa xl xc) p.natAbs) := HNX.out.below K1 (Nat.le_refl _)
        have NY1 : Hid (NS w1 (.slice ya yl yc) q.natAbs) := HNY.out.below K1 (Nat.le_refl _)
        have HC1 : Hid (Cl b [.bool (decide (p < 0)), .slice xa xl xc, .bool (decide (q < 0)), .slice ya yl yc] 60 w1) := HC0.out.below K1
        have HU1 : Hid (Upd b w w1) := Upd.of_below K1
        obtain ⟨g1, g2⟩ := ns_one nr HG0.out
        clear hHeld
        have hHeld : w1.cell? ⟨b, 1, none⟩ = some (.slice xa xl xc) ∧ w1.cell? ⟨b, 3, none⟩ = some (.slice ya yl yc) := ⟨HC1.out.cell 1, HC1.out.cell 3⟩
        have z1 := hHeld.1
        have z3 := hHeld.2
        clear nr k1 K1 hG kd
        refine hK.out _ _ hHeld ?_
        clear hK K
        try simp only [Act.put, List.setIfInBounds_toArray, List.set_cons_zero, List.set_cons_succ]
        refine wpAnyG_last (i := 11) rfl (by kernel_rfl) (by kernel_rfl) (fun K hK => ?_)
        go_simp
        refine hK.out _ _ ?_
        clear hK K
        try simp only [Act.put, List.setIfInBounds_toArray, List.set_cons_zero, List.set_cons_succ]
        refine wpAnyG_done (by kernel_rfl) ?_ _
        clear hHeld
        by_cases hG1 : G = 1
        · obtain ⟨gl1, gg, rfl, cg⟩ := g1 hG1
          subst gl1
          have HE : Hid (G = 1) := hG1
          clear g1 g2 hG1
          go_wp2
          go_ret
          exact ⟨rfl, w, HU0.out, p, q, ⟨_, _, HC1.out, NX1.out, NY1.out⟩, hq, rfl, HGE.out.symm.trans HE.out, Nat.le_refl _, Nat.le_refl _, HU1.out⟩
        · by_cases hgl : gl = 1
          · obtain ⟨gg, gx, rfl, cg, hgx, hgx2⟩ := g2 hG1 hgl
            subst hgl
            have hgb : ((gx : Int) == 1) = false := beq_eq_false_iff_ne.2 (by intro e; exact hgx (by exact_mod_cast e))
            clear g1 g2 hG1 hgx
            go_wp2_with fail
            refine (div_any _ _ p.natAbs G m m w1 (NX1.out) NG.out HP1.out HGM.out hm' hm' HG0.out).mono ?_
            rintro e w2 ⟨p', r1, rfl, np, nr, k2⟩
            obtain ⟨pa, pl, pc, rfl, _⟩ := np.shape
            obtain ⟨ra, rl, rc, rfl, _⟩ := nr.shape
            have C2 : Cl b [.bool (decide (p < 0)), .slice xa xl xc, .bool (decide (q < 0)), .slice ya yl yc] 60 w2 := HC1.out.below k2
            have HC2 : Hid (Cl b [.bool (decide (p < 0)), .slice xa xl xc, .bool (decide (q < 0)), .slice ya yl yc] 60 w2) := C2
            have NP2 : Hid (NS w2 (.slice pa pl pc) (p.natAbs / G)) := np
            have NY2 : Hid (NS w2 (.slice ya yl yc) q.natAbs) := NY1.out.below k2 (Nat.le_refl _)
            have NG2 : Hid (NS w2 (.slice (some ⟨gg, 0, none⟩) 1 gc) G) := NG.out.below k2 (Nat.le_refl _)
            have HU2 : Hid (Upd b w w2) := HU1.out.trans (Upd.of_below k2)
            have y3 := C2.cell 3
            have y1 := C2.cell 1
            simp only [List.getElem?_cons_succ, List.getElem?_cons_zero] at y3 y1
            clear np nr k2 C2 z1 z3
            go_wp2_with fail
            refine (div_any _ _ q.natAbs G m m w2 NY2.out NG2.out HQ1.out HGM.out hm' hm' HG0.out).mono ?_
            rintro e w3 ⟨q', r2, rfl, nq, nr, k3⟩
            obtain ⟨qa, ql, qc, rfl, _⟩ := nq.shape
            obtain ⟨sa, sl, sc, rfl, _⟩ := nr.shape
            have C3 : Cl b [.bool (decide (p < 0)), .slice xa xl xc, .bool (decide (q < 0)), .slice ya yl yc] 60 w3 := HC2.out.below k3
            have f1 := C3.frozen 1
            have f3 := C3.frozen 3
            clear y1 y3
            have y3 := C3.cell 3
            have y1 := C3.cell 1
            simp only [List.getElem?_cons_succ, List.getElem?_cons_zero] at y3 y1
            have HEnd : Hid (∃ P Q : Int, RatAt ((w3.setCell ⟨b, 1, none⟩ (.slice pa pl pc)).setCell ⟨b, 3, none⟩ (.slice qa ql qc)) b P Q ∧ 0 < Q ∧ P * q = p * Q ∧ Nat.gcd P.natAbs Q.natAbs = 1 ∧ P.natAbs ≤ p.natAbs ∧ Q.natAbs ≤ q.natAbs ∧ Upd b w ((w3.setCell ⟨b, 1, none⟩ (.slice pa pl pc)).setCell ⟨b, 3, none⟩ (.slice qa ql qc))) := norm_end hq HP0.out HGE.out C3 (NP2.out.below k3 (Nat.le_refl _)) nq (HU2.out.trans (Upd.of_below k3))
            clear nq nr k3 C3
            go_wp2
            go_ret
            exact ⟨rfl, w, HU0.out, HEnd.out⟩
          · have hgb : ((gl : Int) == 1) = false := beq_eq_false_iff_ne.2 (by intro e; exact hgl (by exact_mod_cast e))
            clear g1 g2 hG1 hgl
            go_wp2_with fail
            refine (div_any _ _ p.natAbs G m m w1 (NX1.out) NG.out HP1.out HGM.out hm' hm' HG0.out).mono ?_
            rintro e w2 ⟨p', r1, rfl, np, nr, k2⟩
            obtain ⟨pa, pl, pc, rfl, _⟩ := np.shape
            obtain ⟨ra, rl, rc, rfl, _⟩ := nr.shape
            have C2 : Cl b [.bool (decide (p < 0)), .slice xa xl xc, .bool (decide (q < 0)), .slice ya yl yc] 60 w2 := HC1.out.below k2
            have HC2 : Hid (Cl b [.bool (decide (p < 0)), .slice xa xl xc, .bool (decide (q < 0)), .slice ya yl yc] 60 w2) := C2
            have NP2 : Hid (NS w2 (.slice pa pl pc) (p.natAbs / G)) := np
            have NY2 : Hid (NS w2 (.slice ya yl yc) q.natAbs) := NY1.out.below k2 (Nat.le_refl _)
            have NG2 : Hid (NS w2 (.slice ga gl gc) G) := NG.out.below k2 (Nat.le_refl _)
            have HU2 : Hid (Upd b w w2) := HU1.out.trans (Upd.of_below k2)
            have y3 := C2.cell 3
            have y1 := C2.cell 1
            simp only [List.getElem?_cons_succ, List.getElem?_cons_zero] at y3 y1
            clear np nr k2 C2 z1 z3
            go_wp2_with fail
            refine (div_any _ _ q.natAbs G m m w2 NY2.out NG2.out HQ1.out HGM.out hm' hm' HG0.out).mono ?_
            rintro e w3 ⟨q', r2, rfl, nq, nr, k3⟩
            obtain ⟨qa, ql, qc, rfl, _⟩ := nq.shape
            obtain ⟨sa, sl, sc, rfl, _⟩ := nr.shape
            have C3 : Cl b [.bool (decide (p < 0)), .slice xa xl xc, .bool (decide (q < 0)), .slice ya yl yc] 60 w3 := HC2.out.below k3
            have f1 := C3.frozen 1
            have f3 := C3.frozen 3
            clear y1 y3
            have y3 := C3.cell 3
            have y1 := C3.cell 1
            simp only [List.getElem?_cons_succ, List.getElem?_cons_zero] at y3 y1
            have HEnd : Hid (∃ P Q : Int, RatAt ((w3.setCell ⟨b, 1, none⟩ (.slice pa pl pc)).setCell ⟨b, 3, none⟩ (.slice qa ql qc)) b P Q ∧ 0 < Q ∧ P * q = p * Q ∧ Nat.gcd P.natAbs Q.natAbs = 1 ∧ P.natAbs ≤ p.natAbs ∧ Q.natAbs ≤ q.natAbs ∧ Upd b w ((w3.setCell ⟨b, 1, none⟩ (.slice pa pl pc)).setCell ⟨b, 3, none⟩ (.slice qa ql qc))) := norm_end hq HP0.out HGE.out C3 (NP2.out.below k3 (Nat.le_refl _)) nq (HU2.out.trans (Upd.of_below k3))
            clear nq nr k3 C3
            go_wp2
            go_ret
            exact ⟨rfl, w, HU0.out, HEnd.out⟩
set_option maxHeartbeats 2000000 in
theorem SetFrac_neg (bz ba oa bb ob : Nat) (x y : Int) (m : Nat) (w : World) (hz : RSlot w bz) (hx : IntAt w ba oa x) (hy : IntAt w bb ob y) (hy0 : y < 0) (hx1 : x.natAbs < pw m) (hy1 : y.natAbs < pw m) (hm' : m ≤ 100000000) :
    Calls Tryz.prog 31 #[.pointer (some ⟨bz, 0, none⟩), .pointer (some ⟨ba, oa, none⟩), .pointer (some ⟨bb, ob, none⟩)] w fun e w' => e = .returned (.pointer (some ⟨bz, 0, none⟩)) ∧ ∃ P Q : Int, RatAt w' bz P Q ∧ 0 < Q ∧ P * y = x * Q ∧ Nat.gcd P.natAbs Q.natAbs = 1 ∧ P.natAbs ≤ x.natAbs ∧ Q.natAbs ≤ y.natAbs ∧ Upd bz w w' := by
  obtain ⟨ya, yl, yc, cy0, cy1, ny, hyl⟩ := hy.open
  have hylp : 0 < yl := hyl.2 (Int.natAbs_pos.2 (by omega))
  have hyb : ((yl : Int) == 0) = false := beq_eq_false_iff_ne.2 (by intro e; have e' : yl = 0 := by exact_mod_cast e
                                                                    exact absurd e' (Nat.ne_of_gt hylp))
  have HZ : Hid (RSlot w bz) := hz
  have HX : Hid (IntAt w ba oa x) := hx
  have HY : Hid (IntAt w bb ob y) := hy
  have HX1 : Hid (x.natAbs < pw m) := hx1
  have HY1 : Hid (y.natAbs < pw m) := hy1
  have HLT : Hid (bz < w.heap.size) := hz.lt
  have HY0 : Hid (y < 0) := hy0
  clear hz hx hy hx1 hy1 ny hyl hy0
  have ka : Below w.heap.size w (w.alloc (.cells #[.bool false, .slice none 0 0] 55)) := (Below.refl _ _).alloc (Nat.le_refl _) _
  have HSa : Hid (Calls Tryz.prog 57 #[.pointer (some ⟨w.heap.size, 0, none⟩), .pointer (some ⟨ba, oa, none⟩)] (w.alloc (.cells #[.bool false, .slice none 0 0] 55)) fun e w' => e = .returned (.pointer (some ⟨w.heap.size, 0, none⟩)) ∧ BigAt w' w.heap.size x ∧ Upd w.heap.size (w.alloc (.cells #[.bool false, .slice none 0 0] 55)) w') := Set_at oa w.heap.size ba x m _ (slot_new w _ _) (HX.out.below ka (Nat.le_refl _)) HX1.out hm'
  go_enter Tryz.func31, Tryz.ntmps31
  go_wp2_with fail
  refine HSa.out.mono ?_
  rintro e w1 ⟨rfl, h1, u1⟩
  have K1 : Below w.heap.size w w1 := ka.trans (u1.below (by simp) (Nat.le_refl _))
  have HK1 : Hid (Below w.heap.size w w1) := K1
  have HB1 : Hid (BigAt w1 w.heap.size x) := h1
  have kb : Below w1.heap.size w1 (w1.alloc (.cells #[.bool false, .slice none 0 0] 55)) := (Below.refl _ _).alloc (Nat.le_refl _) _
  have HSb : Hid (Calls Tryz.prog 57 #[.pointer (some ⟨w1.heap.size, 0, none⟩), .pointer (some ⟨bb, ob, none⟩)] (w1.alloc (.cells #[.bool false, .slice none 0 0] 55)) fun e w' => e = .returned (.pointer (some ⟨w1.heap.size, 0, none⟩)) ∧ BigAt w' w1.heap.size y ∧ Upd w1.heap.size (w1.alloc (.cells #[.bool false, .slice none 0 0] 55)) w') := Set_at ob w1.heap.size bb y m _ (slot_new w1 _ _) ((HY.out.below K1 (Nat.le_refl _)).below kb (Nat.le_refl _)) HY1.out hm'
  clear h1 u1 K1 ka HSa
  go_wp2_with fail
  refine HSb.out.mono ?_
  rintro e w2 ⟨rfl, h2, u2⟩
  have K2 : Below w1.heap.size w1 w2 := kb.trans (u2.below (by simp) (Nat.le_refl _))
  have HK2 : Hid (Below w.heap.size w w2) := HK1.out.trans (K2.mono HK1.out.size)
  have B1 : BigAt w2 w.heap.size x := HB1.out.below K2 (Nat.le_refl _)
  obtain ⟨sx, hsx, nsx⟩ := B1
  obtain ⟨sy, hsy, nsy⟩ := h2
  obtain ⟨xa, xl, xc, hxs, _⟩ := nsx.shape
  obtain ⟨va, vl, vc, hys, _⟩ := nsy.shape
  subst hxs hys
  have hne1 : w.heap.size ≠ bz := by have := HLT.out; omega
  have hne2 : w1.heap.size ≠ bz := by have := HLT.out; have := HK1.out.size; omega
  have CX : Cl w.heap.size [.bool (decide (x < 0)), .slice xa xl xc] 55 w2 := hsx
  have CY : Cl w1.heap.size [.bool (decide (y < 0)), .slice va vl vc] 55 w2 := hsy
  obtain ⟨z0, z1, z2, z3, CZ⟩ := HZ.out.below HK2.out
  have HCZ : Hid (Cl bz [z0, z1, z2, z3] 60 w2) := CZ
  have HCX : Hid (Cl w.heap.size [.bool (decide (x < 0)), .slice xa xl xc] 55 w2) := CX
  have HCY : Hid (Cl w1.heap.size [.bool (decide (y < 0)), .slice va vl vc] 55 w2) := CY
  have HNX : Hid (NS w2 (.slice xa xl xc) x.natAbs) := nsx
  have HNY : Hid (NS w2 (.slice va vl vc) y.natAbs) := nsy
  have a0 := CX.cell 0
  have a1 := CX.cell 1
  have b0 : ∀ u v : Value, ((w2.setCell ⟨bz, 0, none⟩ u).setCell ⟨bz, 1, none⟩ v).cell? ⟨w1.heap.size, 0, none⟩ = some (.bool (decide (y < 0))) := fun u v => ((CY.other hne2 u).other hne2 v).cell 0
  have b1 : ∀ u v : Value, ((w2.setCell ⟨bz, 0, none⟩ u).setCell ⟨bz, 1, none⟩ v).cell? ⟨w1.heap.size, 1, none⟩ = some (.slice va vl vc) := fun u v => ((CY.other hne2 u).other hne2 v).cell 1
  have c0 := CZ.cell 0
  have c1 := CZ.cell 1
  have f0 := CZ.frozen 0
  have f1 := CZ.frozen 1
  have d2 : ∀ u v : Value, ((w2.setCell ⟨bz, 0, none⟩ u).setCell ⟨bz, 1, none⟩ v).cell? ⟨bz, 2, none⟩ = some z2 := fun u v => ((CZ.set 0 u).set 1 v).cell 2
  have d3 : ∀ u v : Value, ((w2.setCell ⟨bz, 0, none⟩ u).setCell ⟨bz, 1, none⟩ v).cell? ⟨bz, 3, none⟩ = some z3 := fun u v => ((CZ.set 0 u).set 1 v).cell 3
  have g2 : ∀ u v : Value, ((w2.setCell ⟨bz, 0, none⟩ u).setCell ⟨bz, 1, none⟩ v).frozen? ⟨bz, 2, none⟩ = false := fun u v => ((CZ.set 0 u).set 1 v).frozen 2
  have g3 : ∀ u v : Value, ((w2.setCell ⟨bz, 0, none⟩ u).setCell ⟨bz, 1, none⟩ v).frozen? ⟨bz, 3, none⟩ = false := fun u v => ((CZ.set 0 u).set 1 v).frozen 3
  simp only [List.getElem?_cons_succ, List.getElem?_cons_zero] at a0 a1 c0 c1
  clear hsx hsy nsx nsy CX CY CZ u2 kb K2 HSb hne1 hne2
  go_wp2_with fail
  obtain ⟨W3, hW3⟩ : ∃ W3, W3 = ((((w2.setCell ⟨bz, 0, none⟩ (.bool (decide (x < 0)))).setCell ⟨bz, 1, none⟩ (.slice xa xl xc)).setCell ⟨bz, 2, none⟩ (.bool (decide (y < 0)))).setCell ⟨bz, 3, none⟩ (.slice va vl vc)) := ⟨_, rfl⟩
  have C3 : Cl bz [.bool (decide (x < 0)), .slice xa xl xc, .bool (decide (y < 0)), .slice va vl vc] 60 W3 := by
    rw [hW3]; exact (((HCZ.out.set 0 _).set 1 _).set 2 _).set 3 _
  have u3 : Upd bz w2 W3 := by rw [hW3]; exact Upd.setCell (o := 3) (Upd.setCell (o := 2) (Upd.setCell (o := 1) (Upd.setCell (o := 0) (Upd.refl bz w2) _) _) _) _
  have R3 : RatAt W3 bz x y := ⟨_, _, C3, HNX.out.updR u3 HCZ.out, HNY.out.updR u3 HCZ.out⟩
  have HU3 : Hid (Upd bz w W3) := (Upd.of_below HK2.out).trans u3
  rw [← hW3]
  have R4 : RatAt W3 bz (- -x) (- -y) := by rw [Int.neg_neg, Int.neg_neg]; exact R3
  refine (norm_neg bz (-x) (-y) m W3 R4 (by have := HY0.out; omega) (by rw [Int.natAbs_neg]; exact HX1.out) (by rw [Int.natAbs_neg]; exact HY1.out) hm').mono ?_
  rintro e w4 ⟨rfl, w5, u5, P, Q, h1, h2, h3', h4, h5, h6, u4'⟩
  have u4 : Upd bz W3 w4 := u5.trans u4'
  have h3 : P * y = x * Q := by
    rw [Int.mul_neg, Int.neg_mul] at h3'
    exact Int.neg_inj.1 h3'
  rw [Int.natAbs_neg] at h5 h6
  clear u5 u4' h3' R4
  have HF : Hid (∃ P Q : Int, RatAt w4 bz P Q ∧ 0 < Q ∧ P * y = x * Q ∧ Nat.gcd P.natAbs Q.natAbs = 1 ∧ P.natAbs ≤ x.natAbs ∧ Q.natAbs ≤ y.natAbs ∧ Upd bz w w4) := ⟨P, Q, h1, h2, h3, h4, h5, h6, HU3.out.trans u4⟩
  clear h1 h2 h3 h4 h5 h6 u4 u3 R3 C3 hW3
  go_wp2
  go_ret
  exact ⟨rfl, HF.out⟩
end Go.Proofs.YtcnfhndejkngkaaGreatDoor
