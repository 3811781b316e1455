import Derived.Test.YtcnfhndejkngkaaGreatDoorJpL
import Derived.Test.YtcnfhndejkngkaaGreatDoorJpE
import Derived.Test.YtcnfhndejkngkaaGreatDoorBigM
set_option linter.unusedSimpArgs false
set_option linter.unusedVariables false
set_option maxRecDepth 100000
namespace Go.Proofs.YtcnfhndejkngkaaGreatDoor
open Go.RowKit
theorem ns_one {w : World} {aa : Option Addr} {len cap n : Nat} (h : NS w (.slice aa len cap) n) (hn0 : 0 < n) :
    (n = 1 → len = 1 ∧ ∃ g, aa = some ⟨g, 0, none⟩ ∧ w.cell? ⟨g, 0, none⟩ = some (.int .u32 1)) ∧ (n ≠ 1 → len = 1 → ∃ g x : Nat, aa = some ⟨g, 0, none⟩ ∧ w.cell? ⟨g, 0, none⟩ = some (.int .u32 (x : Int)) ∧ x ≠ 1 ∧ x < 4294967296) := by
  obtain ⟨l, hs, hv, hN⟩ := h
  have hl : l ≠ [] := by rintro rfl; simp [val] at hv; omega
  obtain ⟨g, cap', e, _, _, hc⟩ := hs.nonnil hl
  injection e with e1 e2 e3
  subst e1
  have hx := List.getD_lt_of hs.small 0
  have hone : l.length = 1 → val l = l.getD 0 0 := by
    intro h1
    match l, h1 with
    | [x], _ => simp [val]
  refine ⟨fun h1 => ?_, fun h1 h2 => ?_⟩
  · have hlen : l.length = 1 := by
      have hpos : 0 < l.length := List.length_pos_iff.2 hl
      rcases hN with h | h
      · exact absurd h hl
      · rcases Nat.lt_or_ge 1 l.length with h3 | h3
        · exfalso
          have h4 : pw 1 ≤ pw (l.length - 1) := pw_le (by omega)
          have h5 : pw 1 = 4294967296 := by decide
          omega
        · omega
    refine ⟨by omega, g, rfl, ?_⟩
    rw [hc 0 (by omega)]
    have := hone hlen
    congr 2
    omega
  · refine ⟨g, l.getD 0 0, rfl, hc 0 (by omega), ?_, hx⟩
    have := hone (by omega)
    omega
theorem sgd_sign (p : Int) (c : Nat) (hp : p ≠ 0) (hc : 0 < c) : decide (sgd (decide (p < 0)) c < 0) = decide (p < 0) ∧ (sgd (decide (p < 0)) c).natAbs = c := by
  by_cases h : p < 0
  · simp [sgd, h] <;> omega
  · simp [sgd, h] <;> omega
theorem ratio_math {p q : Int} {G : Nat} (hq : 0 < q) (hp : p ≠ 0) (h1 : G ∣ p.natAbs) (h2 : G ∣ q.natAbs) : sgd (decide (p < 0)) (p.natAbs / G) * q = p * ((q.natAbs / G : Nat) : Int) := by
  obtain ⟨c, hc⟩ := h1
  obtain ⟨d, hd⟩ := h2
  have hG : 0 < G := by
    rcases Nat.eq_zero_or_pos G with h | h
    · subst h; simp at hc; exact absurd hc hp
    · exact h
  rw [hc, hd, Nat.mul_div_cancel_left _ hG, Nat.mul_div_cancel_left _ hG]
  have hqi : q = (G : Int) * (d : Int) := by
    have : (q.natAbs : Int) = ((G * d : Nat) : Int) := by rw [hd]
    rw [Int.natAbs_of_nonneg (Int.le_of_lt hq)] at this
    simpa using this
  by_cases h : p < 0
  · have hpi : p = -((G : Int) * (c : Int)) := by
      have : (p.natAbs : Int) = ((G * c : Nat) : Int) := by rw [hc]
      rw [Int.ofNat_natAbs_of_nonpos (Int.le_of_lt h)] at this
      have h2 : -p = (G : Int) * (c : Int) := by simpa using this
      rw [← h2, Int.neg_neg]
    simp only [sgd, h, decide_true, if_true]
    rw [hqi, hpi]; grind
  · have hpi : p = (G : Int) * (c : Int) := by
      have : (p.natAbs : Int) = ((G * c : Nat) : Int) := by rw [hc]
      rw [Int.natAbs_of_nonneg (Int.not_lt.1 h)] at this
      simpa using this
    simp only [sgd, h, decide_false, Bool.false_eq_true, if_false]
    rw [hqi, hpi]; grind
theorem norm_end {b G : Nat} {p q : Int} {w w3 : World} {xa ya pa qa : Option Addr} {xl xc yl yc pl pc ql qc : Nat} (hq : 0 < q) (hp : p ≠ 0) (hG : G = Nat.gcd p.natAbs q.natAbs)
    (C3 : Cl b [.bool (decide (p < 0)), .slice xa xl xc, .bool (decide (q < 0)), .slice ya yl yc] 60 w3) (np : NS w3 (.slice pa pl pc) (p.natAbs / G)) (nq : NS w3 (.slice qa ql qc) (q.natAbs / G)) (u : Upd b w w3) :
    ∃ P Q : Int, RatAt ((w3.setCell ⟨b, 1, none⟩ (.slice pa pl pc)).setCell ⟨b, 3, none⟩ (.slice qa ql qc)) b P Q ∧ 0 < Q ∧ P * q = p * Q ∧ Nat.gcd P.natAbs Q.natAbs = 1 ∧ P.natAbs ≤ p.natAbs ∧ Q.natAbs ≤ q.natAbs ∧ Upd b w ((w3.setCell ⟨b, 1, none⟩ (.slice pa pl pc)).setCell ⟨b, 3, none⟩ (.slice qa ql qc)) := by
  have hpa : 0 < p.natAbs := Int.natAbs_pos.2 hp
  have hqa : 0 < q.natAbs := Int.natAbs_pos.2 (by omega)
  have hG0 : 0 < G := by rw [hG]; exact Nat.gcd_pos_of_pos_left _ hpa
  have d1 : G ∣ p.natAbs := by rw [hG]; exact Nat.gcd_dvd_left ..
  have d2 : G ∣ q.natAbs := by rw [hG]; exact Nat.gcd_dvd_right ..
  have p0 : 0 < p.natAbs / G := Nat.div_pos (Nat.le_of_dvd hpa d1) hG0
  have q0 : 0 < q.natAbs / G := Nat.div_pos (Nat.le_of_dvd hqa d2) hG0
  obtain ⟨s1, s2⟩ := sgd_sign p (p.natAbs / G) hp p0
  have u3 : Upd b w3 ((w3.setCell ⟨b, 1, none⟩ (.slice pa pl pc)).setCell ⟨b, 3, none⟩ (.slice qa ql qc)) := Upd.setCell (o := 3) (Upd.setCell (o := 1) (Upd.refl b w3) _) _
  refine ⟨sgd (decide (p < 0)) (p.natAbs / G), ((q.natAbs / G : Nat) : Int), ⟨.slice pa pl pc, .slice qa ql qc, ?_, ?_, ?_⟩, by omega, ratio_math hq hp d1 d2, ?_, ?_, ?_, u.trans u3⟩
  · have h := (C3.set 1 (.slice pa pl pc)).set 3 (.slice qa ql qc)
    rw [s1, show decide (((q.natAbs / G : Nat) : Int) < 0) = decide (q < 0) by rw [decide_eq_false (by omega), decide_eq_false (by omega)]]
    exact h
  · rw [s2]; exact np.updR u3 C3
  · rw [Int.natAbs_natCast]; exact nq.updR u3 C3
  · rw [s2, Int.natAbs_natCast, hG]; exact Nat.gcd_div_gcd_div_gcd_of_pos_left hpa
  · rw [s2]; exact Nat.div_le_self ..
  · rw [Int.natAbs_natCast]; exact Nat.div_le_self ..
set_option maxHeartbeats 4000000 in
theorem norm_pos (b : Nat) (p q : Int) (m : Nat) (w : World) (hz : RatAt w b p q) (hq : 0 < q) (hp1 : p.natAbs < pw m) (hq1 : q.natAbs < pw m) (hm' : m ≤ 100000000) :
    Calls Tryz.prog 61 #[.pointer (some ⟨b, 0, none⟩)] w fun e w' => e = .returned (.pointer (some ⟨b, 0, none⟩)) ∧ ∃ P Q : Int, RatAt w' b P Q ∧ 0 < Q ∧ P * q = p * Q ∧ Nat.gcd P.natAbs Q.natAbs = 1 ∧ P.natAbs ≤ p.natAbs ∧ Q.natAbs ≤ q.natAbs ∧ Upd b w w' := by
  obtain ⟨ya, yl, yc, cy0, cy1, ny, hyl⟩ := hz.den.open
  obtain ⟨xa, xl, xc, cx0, cx1, nx, hxl⟩ := hz.num.open
  have HZ : Hid (RatAt w b p q) := hz
  have hy1 : ((yl : Int) == 0) = false := beq_eq_false_iff_ne.2 (by omega)
  have hylp : 0 < yl := by omega
  have hd : decide (q < 0) = false := decide_eq_false (by omega)
  rw [hd] at cy0
  have HNX : Hid (NS w (.slice xa xl xc) p.natAbs) := nx
  have HC0 : Hid (Cl b [.bool (decide (p < 0)), .slice xa xl xc, .bool (decide (q < 0)), .slice ya yl yc] 60 w) := by
    obtain ⟨s, t, h1, _, _⟩ := HZ.out
    have e1 : s = .slice xa xl xc := by have h := h1.cell 1; simp only [List.getElem?_cons_succ, List.getElem?_cons_zero] at h; rw [cx1] at h; exact (Option.some.inj h).symm
    have e2 : t = .slice ya yl yc := by have h := h1.cell 3; simp only [List.getElem?_cons_succ, List.getElem?_cons_zero] at h; rw [cy1] at h; exact (Option.some.inj h).symm
    rw [e1, e2] at h1
    exact h1
  have HNY : Hid (NS w (.slice ya yl yc) q.natAbs) := ny
  have HP1 : Hid (p.natAbs < pw m) := hp1
  have HQ1 : Hid (q.natAbs < pw m) := hq1
  obtain ⟨qn, hqn⟩ : ∃ qn : Nat, q = qn := ⟨q.toNat, by omega⟩
  have hqa : q.natAbs = qn := by rw [hqn]; rfl
  have hqp : 0 < qn := by omega
  have ny2 : NS w (.slice ya yl yc) qn := hqa ▸ ny
  obtain ⟨o1, o2⟩ := ns_one ny2 hqp
  simp only [Nat.zero_add, Nat.reduceAdd] at cx1 cy1
  clear hz nx ny ny2 hp1 hq1 hd
  by_cases hp0 : p = 0
  · obtain rfl : xl = 0 := by omega
    have HSet : Hid (Calls Tryz.prog 75 #[.pointer (some ⟨b, 2, none⟩), .int .i64 1] w fun e w' => e = .returned (.pointer (some ⟨b, 2, none⟩)) ∧ RatAt w' b p 1 ∧ Upd b w w') := SetInt64_den b p q w HZ.out
    have HPZ : Hid (p = 0) := hp0
    clear hp0 o1 o2
    go_enter Tryz.func61, Tryz.ntmps61
    go_wp2_with fail
    refine HSet.out.mono ?_
    rintro e w1 ⟨rfl, h1, u1⟩
    go_wp2
    go_ret
    exact ⟨rfl, p, 1, h1, by omega, by rw [HPZ.out]; simp, by rw [HPZ.out]; rfl, Nat.le_refl _, by show 1 ≤ _; omega, u1⟩
  · have hxlp : 0 < xl := hxl.2 (Int.natAbs_pos.2 hp0)
    have hx1 : ((xl : Int) == 0) = false := beq_eq_false_iff_ne.2 (by intro e; have e' : xl = 0 := by exact_mod_cast e
                                                                      exact absurd e' (Nat.ne_of_gt hxlp))
    have HP0 : Hid (p ≠ 0) := hp0
    clear hp0
    by_cases hq1' : qn = 1
    · obtain ⟨rfl, gy, rfl, cg⟩ := o1 hq1'
      have HQ : Hid (q = 1) := by show q = 1; rw [hqn, hq1']; rfl
      clear o1 o2 hq1'
      go_enter Tryz.func61, Tryz.ntmps61
      go_wp2
      go_ret
      exact ⟨rfl, p, q, HZ.out, hq, rfl, (by rw [HQ.out]; exact Nat.gcd_one_right _), Nat.le_refl _, Nat.le_refl _, Upd.refl _ _⟩
    · by_cases hyl1 : yl = 1
      · obtain ⟨yg, yx, rfl, cyx, hyx, hyx2⟩ := o2 hq1' hyl1
        subst hyl1
        have hyb : ((yx : Int) == 1) = false := beq_eq_false_iff_ne.2 (by intro e; exact hyx (by exact_mod_cast e))
        clear o1 o2 hyx hq1'
        go_enter Tryz.func61, Tryz.ntmps61
        go_wp2_with fail
        refine wp_region_G (fun w' => w'.cell? ⟨b, 1, none⟩ = some (.slice xa xl xc) ∧ w'.cell? ⟨b, 3, none⟩ = some (.slice (some ⟨yg, 0, none⟩) 1 yc)) 11 (by kernel_rfl) ⟨cx1, cy1⟩ (fun hHeld => ?_)
        refine wpAnyG_take (i := 0) (v := ?v0x1) rfl (by kernel_rfl) (fun _ _ _ h => h) (Or.inl ⟨by rfl, ?y0x1⟩) hHeld ?r0x1
        case y0x1 => (intro wS hSw; obtain ⟨s1, s2⟩ := hSw; go_simp; try with_reducible rfl)
        try simp only [Act.put, List.setIfInBounds_toArray, List.set_cons_zero, List.set_cons_succ]
        refine wpAnyG_take (i := 1) (v := ?v1x2) rfl (by kernel_rfl) (fun _ _ _ h => h) (Or.inl ⟨by rfl, ?y1x2⟩) hHeld ?r1x2
        case y1x2 => (intro wS hSw; obtain ⟨s1, s2⟩ := hSw; go_simp; try with_reducible rfl)
        try simp only [Act.put, List.setIfInBounds_toArray, List.set_cons_zero, List.set_cons_succ]
        refine wpAnyG_take (i := 2) (v := ?v2x3) rfl (by kernel_rfl) (fun _ _ _ h => h) (Or.inl ⟨by rfl, ?y2x3⟩) hHeld ?r2x3
        case y2x3 => (intro wS hSw; obtain ⟨s1, s2⟩ := hSw; go_simp; try with_reducible rfl)
        try simp only [Act.put, List.setIfInBounds_toArray, List.set_cons_zero, List.set_cons_succ]
        refine wpAnyG_take (i := 3) (v := ?v3x4) rfl (by kernel_rfl) (fun _ _ _ h => h) (Or.inl ⟨by rfl, ?y3x4⟩) hHeld ?r3x4
        case y3x4 => (intro wS hSw; obtain ⟨s1, s2⟩ := hSw; go_simp; try with_reducible rfl)
        try simp only [Act.put, List.setIfInBounds_toArray, List.set_cons_zero, List.set_cons_succ]
        refine wpAnyG_take (i := 4) (v := ?v4x5) rfl (by kernel_rfl) (fun _ _ _ h => h) (Or.inl ⟨by rfl, ?y4x5⟩) hHeld ?r4x5
        case y4x5 => (intro wS hSw; obtain ⟨s1, s2⟩ := hSw; go_simp; try with_reducible rfl)
        try simp only [Act.put, List.setIfInBounds_toArray, List.set_cons_zero, List.set_cons_succ]
        refine wpAnyG_take (i := 5) (v := ?v5x6) rfl (by kernel_rfl) (fun _ _ _ h => h) (Or.inl ⟨by rfl, ?y5x6⟩) hHeld ?r5x6
        case y5x6 => (intro wS hSw; obtain ⟨s1, s2⟩ := hSw; go_simp; try with_reducible rfl)
        try simp only [Act.put, List.setIfInBounds_toArray, List.set_cons_zero, List.set_cons_succ]
        refine wpAnyG_take (i := 6) (v := ?v6x7) rfl (by kernel_rfl) (fun _ _ _ h => h) (Or.inl ⟨by rfl, ?y6x7⟩) hHeld ?r6x7
        case y6x7 => (intro wS hSw; obtain ⟨s1, s2⟩ := hSw; go_simp; try with_reducible rfl)
        try simp only [Act.put, List.setIfInBounds_toArray, List.set_cons_zero, List.set_cons_succ]
        refine wpAnyG_take (i := 7) (v := ?v7x8) rfl (by kernel_rfl) (fun _ _ _ h => h) (Or.inl ⟨by rfl, ?y7x8⟩) hHeld ?r7x8
        case y7x8 => (intro wS hSw; obtain ⟨s1, s2⟩ := hSw; go_simp; try with_reducible rfl)
        try simp only [Act.put, List.setIfInBounds_toArray, List.set_cons_zero, List.set_cons_succ]
        refine wpAnyG_take (i := 8) (v := ?v8x9) rfl (by kernel_rfl) (fun _ _ _ h => h) (Or.inl ⟨by rfl, ?y8x9⟩) hHeld ?r8x9
        case y8x9 => (intro wS hSw; obtain ⟨s1, s2⟩ := hSw; go_simp; try with_reducible rfl)
        try simp only [Act.put, List.setIfInBounds_toArray, List.set_cons_zero, List.set_cons_succ]
        refine wpAnyG_take (i := 9) (v := ?v9x10) rfl (by kernel_rfl) (fun _ _ _ h => h) (Or.inl ⟨by rfl, ?y9x10⟩) hHeld ?r9x10
        case y9x10 => (intro wS hSw; obtain ⟨s1, s2⟩ := hSw; go_simp; try with_reducible rfl)
        try simp only [Act.put, List.setIfInBounds_toArray, List.set_cons_zero, List.set_cons_succ]
        refine wpAnyG_one (i := 10) rfl (by kernel_rfl) (fun K hK => ?_)
        go_simp
        have kd : Below w.heap.size w w.drew := (Below.refl _ _).drew
        refine (common_any _ _ p.natAbs q.natAbs m _ (HNX.out.below kd (Nat.le_refl _)) (HNY.out.below kd (Nat.le_refl _)) HP1.out HQ1.out hm' (Int.natAbs_pos.2 HP0.out)).mono ?_
        rintro e w1 ⟨r, rfl, nr, k1⟩
        have K1 : Below w.heap.size w w1 := kd.trans (k1.mono (by simp))
        obtain ⟨G, hG⟩ : ∃ G, G = Nat.gcd p.natAbs q.natAbs := ⟨_, rfl⟩
        rw [← hG] at nr
        have HGE : Hid (G = Nat.gcd p.natAbs q.natAbs) := hG
        have HG0 : Hid (0 < G) := by rw [hG]; exact Nat.gcd_pos_of_pos_left _ (Int.natAbs_pos.2 HP0.out)
        have HGM : Hid (G < pw m) := Nat.lt_of_le_of_lt (by rw [hG]; exact Nat.gcd_le_left _ (Int.natAbs_pos.2 HP0.out)) HP1.out
        obtain ⟨ga, gl, gc, rfl, _⟩ := nr.shape
        have NG : Hid (NS w1 (.slice ga gl gc) G) := nr
        have NX1 : Hid (NS w1 (.slice xa xl xc) p.natAbs) := HNX.out.below K1 (Nat.le_refl _)
        have NY1 : Hid (NS w1 (.slice (some ⟨yg, 0, none⟩) 1 yc) q.natAbs) := HNY.out.below K1 (Nat.le_refl _)
        have HC1 : Hid (Cl b [.bool (decide (p < 0)), .slice xa xl xc, .bool (decide (q < 0)), .slice (some ⟨yg, 0, none⟩) 1 yc] 60 w1) := HC0.out.below K1
        have HU1 : Hid (Upd b w w1) := Upd.of_below K1
        obtain ⟨g1, g2⟩ := ns_one nr HG0.out
        clear hHeld
        have hHeld : w1.cell? ⟨b, 1, none⟩ = some (.slice xa xl xc) ∧ w1.cell? ⟨b, 3, none⟩ = some (.slice (some ⟨yg, 0, none⟩) 1 yc) := ⟨HC1.out.cell 1, HC1.out.cell 3⟩
        have z1 := hHeld.1
        have z3 := hHeld.2
        clear nr k1 K1 hG kd
        refine hK.out _ _ hHeld ?_
        clear hK K
        try simp only [Act.put, List.setIfInBounds_toArray, List.set_cons_zero, List.set_cons_succ]
        refine wpAnyG_last (i := 11) rfl (by kernel_rfl) (by kernel_rfl) (fun K hK => ?_)
        go_simp
        refine hK.out _ _ ?_
        clear hK K
        try simp only [Act.put, List.setIfInBounds_toArray, List.set_cons_zero, List.set_cons_succ]
        refine wpAnyG_done (by kernel_rfl) ?_ _
        clear hHeld
        by_cases hG1 : G = 1
        · obtain ⟨gl1, gg, rfl, cg⟩ := g1 hG1
          subst gl1
          have HE : Hid (G = 1) := hG1
          clear g1 g2 hG1
          go_wp2
          go_ret
          exact ⟨rfl, p, q, ⟨_, _, HC1.out, NX1.out, NY1.out⟩, hq, rfl, HGE.out.symm.trans HE.out, Nat.le_refl _, Nat.le_refl _, HU1.out⟩
        · by_cases hgl : gl = 1
          · obtain ⟨gg, gx, rfl, cg, hgx, hgx2⟩ := g2 hG1 hgl
            subst hgl
            have hgb : ((gx : Int) == 1) = false := beq_eq_false_iff_ne.2 (by intro e; exact hgx (by exact_mod_cast e))
            clear g1 g2 hG1 hgx
            go_wp2_with fail
            refine (div_any _ _ p.natAbs G m m w1 (NX1.out) NG.out HP1.out HGM.out hm' hm' HG0.out).mono ?_
            rintro e w2 ⟨p', r1, rfl, np, nr, k2⟩
            obtain ⟨pa, pl, pc, rfl, _⟩ := np.shape
            obtain ⟨ra, rl, rc, rfl, _⟩ := nr.shape
            have C2 : Cl b [.bool (decide (p < 0)), .slice xa xl xc, .bool (decide (q < 0)), .slice (some ⟨yg, 0, none⟩) 1 yc] 60 w2 := HC1.out.below k2
            have HC2 : Hid (Cl b [.bool (decide (p < 0)), .slice xa xl xc, .bool (decide (q < 0)), .slice (some ⟨yg, 0, none⟩) 1 yc] 60 w2) := C2
            have NP2 : Hid (NS w2 (.slice pa pl pc) (p.natAbs / G)) := np
            have NY2 : Hid (NS w2 (.slice (some ⟨yg, 0, none⟩) 1 yc) q.natAbs) := NY1.out.below k2 (Nat.le_refl _)
            have NG2 : Hid (NS w2 (.slice (some ⟨gg, 0, none⟩) 1 gc) G) := NG.out.below k2 (Nat.le_refl _)
            have HU2 : Hid (Upd b w w2) := HU1.out.trans (Upd.of_below k2)
            have y3 := C2.cell 3
            have y1 := C2.cell 1
            simp only [List.getElem?_cons_succ, List.getElem?_cons_zero] at y3 y1
            clear np nr k2 C2 z1 z3
            go_wp2_with fail
            refine (div_any _ _ q.natAbs G m m w2 NY2.out NG2.out HQ1.out HGM.out hm' hm' HG0.out).mono ?_
            rintro e w3 ⟨q', r2, rfl, nq, nr, k3⟩
            obtain ⟨qa, ql, qc, rfl, _⟩ := nq.shape
            obtain ⟨sa, sl, sc, rfl, _⟩ := nr.shape
            have C3 : Cl b [.bool (decide (p < 0)), .slice xa xl xc, .bool (decide (q < 0)), .slice (some ⟨yg, 0, none⟩) 1 yc] 60 w3 := HC2.out.below k3
            have f1 := C3.frozen 1
            have f3 := C3.frozen 3
            clear y1 y3
            have y3 := C3.cell 3
            have y1 := C3.cell 1
            simp only [List.getElem?_cons_succ, List.getElem?_cons_zero] at y3 y1
            have HEnd : Hid (∃ P Q : Int, RatAt ((w3.setCell ⟨b, 1, none⟩ (.slice pa pl pc)).setCell ⟨b, 3, none⟩ (.slice qa ql qc)) b P Q ∧ 0 < Q ∧ P * q = p * Q ∧ Nat.gcd P.natAbs Q.natAbs = 1 ∧ P.natAbs ≤ p.natAbs ∧ Q.natAbs ≤ q.natAbs ∧ Upd b w ((w3.setCell ⟨b, 1, none⟩ (.slice pa pl pc)).setCell ⟨b, 3, none⟩ (.slice qa ql qc))) := norm_end hq HP0.out HGE.out C3 (NP2.out.below k3 (Nat.le_refl _)) nq (HU2.out.trans (Upd.of_below k3))
            clear nq nr k3 C3
            go_wp2
            go_ret
            exact ⟨rfl, HEnd.out⟩
          · have hgb : ((gl : Int) == 1) = false := beq_eq_false_iff_ne.2 (by intro e; exact hgl (by exact_mod_cast e))
            clear g1 g2 hG1 hgl
            go_wp2_with fail
            refine (div_any _ _ p.natAbs G m m w1 (NX1.out) NG.out HP1.out HGM.out hm' hm' HG0.out).mono ?_
            rintro e w2 ⟨p', r1, rfl, np, nr, k2⟩
            obtain ⟨pa, pl, pc, rfl, _⟩ := np.shape
            obtain ⟨ra, rl, rc, rfl, _⟩ := nr.shape
            have C2 : Cl b [.bool (decide (p < 0)), .slice xa xl xc, .bool (decide (q < 0)), .slice (some ⟨yg, 0, none⟩) 1 yc] 60 w2 := HC1.out.below k2
            have HC2 : Hid (Cl b [.bool (decide (p < 0)), .slice xa xl xc, .bool (decide (q < 0)), .slice (some ⟨yg, 0, none⟩) 1 yc] 60 w2) := C2
            have NP2 : Hid (NS w2 (.slice pa pl pc) (p.natAbs / G)) := np
            have NY2 : Hid (NS w2 (.slice (some ⟨yg, 0, none⟩) 1 yc) q.natAbs) := NY1.out.below k2 (Nat.le_refl _)
            have NG2 : Hid (NS w2 (.slice ga gl gc) G) := NG.out.below k2 (Nat.le_refl _)
            have HU2 : Hid (Upd b w w2) := HU1.out.trans (Upd.of_below k2)
            have y3 := C2.cell 3
            have y1 := C2.cell 1
            simp only [List.getElem?_cons_succ, List.getElem?_cons_zero] at y3 y1
            clear np nr k2 C2 z1 z3
            go_wp2_with fail
            refine (div_any _ _ q.natAbs G m m w2 NY2.out NG2.out HQ1.out HGM.out hm' hm' HG0.out).mono ?_
            rintro e w3 ⟨q', r2, rfl, nq, nr, k3⟩
            obtain ⟨qa, ql, qc, rfl, _⟩ := nq.shape
            obtain ⟨sa, sl, sc, rfl, _⟩ := nr.shape
            have C3 : Cl b [.bool (decide (p < 0)), .slice xa xl xc, .bool (decide (q < 0)), .slice (some ⟨yg, 0, none⟩) 1 yc] 60 w3 := HC2.out.below k3
            have f1 := C3.frozen 1
            have f3 := C3.frozen 3
            clear y1 y3
            have y3 := C3.cell 3
            have y1 := C3.cell 1
            simp only [List.getElem?_cons_succ, List.getElem?_cons_zero] at y3 y1
            have HEnd : Hid (∃ P Q : Int, RatAt ((w3.setCell ⟨b, 1, none⟩ (.slice pa pl pc)).setCell ⟨b, 3, none⟩ (.slice qa ql qc)) b P Q ∧ 0 < Q ∧ P * q = p * Q ∧ Nat.gcd P.natAbs Q.natAbs = 1 ∧ P.natAbs ≤ p.natAbs ∧ Q.natAbs ≤ q.natAbs ∧ Upd b w ((w3.setCell ⟨b, 1, none⟩ (.slice pa pl pc)).setCell ⟨b, 3, none⟩ (.slice qa ql qc))) := norm_end hq HP0.out HGE.out C3 (NP2.out.below k3 (Nat.le_refl _)) nq (HU2.out.trans (Upd.of_below k3))
            clear nq nr k3 C3
            go_wp2
            go_ret
            exact ⟨rfl, HEnd.out⟩
      · have hyb : ((yl : Int) == 1) = false := beq_eq_false_iff_ne.2 (by intro e; exact hyl1 (by exact_mod_cast e))
        clear o1 o2 hyl1 hq1'
        go_enter Tryz.func61, Tryz.ntmps61
        go_wp2_with fail
        refine wp_region_G (fun w' => w'.cell? ⟨b, 1, none⟩ = some (.slice xa xl xc) ∧ w'.cell? ⟨b, 3, none⟩ = some (.slice ya yl yc)) 11 (by kernel_rfl) ⟨cx1, cy1⟩ (fun hHeld => ?_)
        refine wpAnyG_take (i := 0) (v := ?v0x11) rfl (by kernel_rfl) (fun _ _ _ h => h) (Or.inl ⟨by rfl, ?y0x11⟩) hHeld ?r0x11
        case y0x11 => (intro wS hSw; obtain ⟨s1, s2⟩ := hSw; go_simp; try with_reducible rfl)
        try simp only [Act.put, List.setIfInBounds_toArray, List.set_cons_zero, List.set_cons_succ]
        refine wpAnyG_take (i := 1) (v := ?v1x12) rfl (by kernel_rfl) (fun _ _ _ h => h) (Or.inl ⟨by rfl, ?y1x12⟩) hHeld ?r1x12
        case y1x12 => (intro wS hSw; obtain ⟨s1, s2⟩ := hSw; go_simp; try with_reducible rfl)
        try simp only [Act.put, List.setIfInBounds_toArray, List.set_cons_zero, List.set_cons_succ]
        refine wpAnyG_take (i := 2) (v := ?v2x13) rfl (by kernel_rfl) (fun _ _ _ h => h) (Or.inl ⟨by rfl, ?y2x13⟩) hHeld ?r2x13
        case y2x13 => (intro wS hSw; obtain ⟨s1, s2⟩ := hSw; go_simp; try with_reducible rfl)
        try simp only [Act.put, List.setIfInBounds_toArray, List.set_cons_zero, List.set_cons_succ]
        refine wpAnyG_take (i := 3) (v := ?v3x14) rfl (by kernel_rfl) (fun _ _ _ h => h) (Or.inl ⟨by rfl, ?y3x14⟩) hHeld ?r3x14
        case y3x14 => (intro wS hSw; obtain ⟨s1, s2⟩ := hSw; go_simp; try with_reducible rfl)
        try simp only [Act.put, List.setIfInBounds_toArray, List.set_cons_zero, List.set_cons_succ]
        refine wpAnyG_take (i := 4) (v := ?v4x15) rfl (by kernel_rfl) (fun _ _ _ h => h) (Or.inl ⟨by rfl, ?y4x15⟩) hHeld ?r4x15
        case y4x15 => (intro wS hSw; obtain ⟨s1, s2⟩ := hSw; go_simp; try with_reducible rfl)
        try simp only [Act.put, List.setIfInBounds_toArray, List.set_cons_zero, List.set_cons_succ]
        refine wpAnyG_take (i := 5) (v := ?v5x16) rfl (by kernel_rfl) (fun _ _ _ h => h) (Or.inl ⟨by rfl, ?y5x16⟩) hHeld ?r5x16
        case y5x16 => (intro wS hSw; obtain ⟨s1, s2⟩ := hSw; go_simp; try with_reducible rfl)
        try simp only [Act.put, List.setIfInBounds_toArray, List.set_cons_zero, List.set_cons_succ]
        refine wpAnyG_take (i := 6) (v := ?v6x17) rfl (by kernel_rfl) (fun _ _ _ h => h) (Or.inl ⟨by rfl, ?y6x17⟩) hHeld ?r6x17
        case y6x17 => (intro wS hSw; obtain ⟨s1, s2⟩ := hSw; go_simp; try with_reducible rfl)
        try simp only [Act.put, List.setIfInBounds_toArray, List.set_cons_zero, List.set_cons_succ]
        refine wpAnyG_take (i := 7) (v := ?v7x18) rfl (by kernel_rfl) (fun _ _ _ h => h) (Or.inl ⟨by rfl, ?y7x18⟩) hHeld ?r7x18
        case y7x18 => (intro wS hSw; obtain ⟨s1, s2⟩ := hSw; go_simp; try with_reducible rfl)
        try simp only [Act.put, List.setIfInBounds_toArray, List.set_cons_zero, List.set_cons_succ]
        refine wpAnyG_take (i := 8) (v := ?v8x19) rfl (by kernel_rfl) (fun _ _ _ h => h) (Or.inl ⟨by rfl, ?y8x19⟩) hHeld ?r8x19
        case y8x19 => (intro wS hSw; obtain ⟨s1, s2⟩ := hSw; go_simp; try with_reducible rfl)
        try simp only [Act.put, List.setIfInBounds_toArray, List.set_cons_zero, List.set_cons_succ]
        refine wpAnyG_take (i := 9) (v := ?v9x20) rfl (by kernel_rfl) (fun _ _ _ h => h) (Or.inl ⟨by rfl, ?y9x20⟩) hHeld ?r9x20
        case y9x20 => (intro wS hSw; obtain ⟨s1, s2⟩ := hSw; go_simp; try with_reducible rfl)
        try simp only [Act.put, List.setIfInBounds_toArray, List.set_cons_zero, List.set_cons_succ]
        refine wpAnyG_one (i := 10) rfl (by kernel_rfl) (fun K hK => ?_)
        go_simp
        have kd : Below w.heap.size w w.drew := (Below.refl _ _).drew
        refine (common_any _ _ p.natAbs q.natAbs m _ (HNX.out.below kd (Nat.le_refl _)) (HNY.out.below kd (Nat.le_refl _)) HP1.out HQ1.out hm' (Int.natAbs_pos.2 HP0.out)).mono ?_
        rintro e w1 ⟨r, rfl, nr, k1⟩
        have K1 : Below w.heap.size w w1 := kd.trans (k1.mono (by simp))
        obtain ⟨G, hG⟩ : ∃ G, G = Nat.gcd p.natAbs q.natAbs := ⟨_, rfl⟩
        rw [← hG] at nr
        have HGE : Hid (G = Nat.gcd p.natAbs q.natAbs) := hG
        have HG0 : Hid (0 < G) := by rw [hG]; exact Nat.gcd_pos_of_pos_left _ (Int.natAbs_pos.2 HP0.out)
        have HGM : Hid (G < pw m) := Nat.lt_of_le_of_lt (by rw [hG]; exact Nat.gcd_le_left _ (Int.natAbs_pos.2 HP0.out)) HP1.out
        obtain ⟨ga, gl, gc, rfl, _⟩ := nr.shape
        have NG : Hid (NS w1 (.slice ga gl gc) G) := nr
        have NX1 : Hid (NS w1 (.slice xa xl xc) p.natAbs) := HNX.out.below K1 (Nat.le_refl _)
        have NY1 : Hid (NS w1 (.slice ya yl yc) q.natAbs) := HNY.out.below K1 (Nat.le_refl _)
        have HC1 : Hid (Cl b [.bool (decide (p < 0)), .slice xa xl xc, .bool (decide (q < 0)), .slice ya yl yc] 60 w1) := HC0.out.below K1
        have HU1 : Hid (Upd b w w1) := Upd.of_below K1
        obtain ⟨g1, g2⟩ := ns_one nr HG0.out
        clear hHeld
        have hHeld : w1.cell? ⟨b, 1, none⟩ = some (.slice xa xl xc) ∧ w1.cell? ⟨b, 3, none⟩ = some (.slice ya yl yc) := ⟨HC1.out.cell 1, HC1.out.cell 3⟩
        have z1 := hHeld.1
        have z3 := hHeld.2
        clear nr k1 K1 hG kd
        refine hK.out _ _ hHeld ?_
        clear hK K
        try simp only [Act.put, List.setIfInBounds_toArray, List.set_cons_zero, List.set_cons_succ]
        refine wpAnyG_last (i := 11) rfl (by kernel_rfl) (by kernel_rfl) (fun K hK => ?_)
        go_simp
        refine hK.out _ _ ?_
        clear hK K
        try simp only [Act.put, List.setIfInBounds_toArray, List.set_cons_zero, List.set_cons_succ]
        refine wpAnyG_done (by kernel_rfl) ?_ _
        clear hHeld
        by_cases hG1 : G = 1
        · obtain ⟨gl1, gg, rfl, cg⟩ := g1 hG1
          subst gl1
          have HE : Hid (G = 1) := hG1
          clear g1 g2 hG1
          go_wp2
          go_ret
          exact ⟨rfl, p, q, ⟨_, _, HC1.out, NX1.out, NY1.out⟩, hq, rfl, HGE.out.symm.trans HE.out, Nat.le_refl _, Nat.le_refl _, HU1.out⟩
        · by_cases hgl : gl = 1
          · obtain ⟨gg, gx, rfl, cg, hgx, hgx2⟩ := g2 hG1 hgl
            subst hgl
            have hgb : ((gx : Int) == 1) = false := beq_eq_false_iff_ne.2 (by intro e; exact hgx (by exact_mod_cast e))
            clear g1 g2 hG1 hgx
            go_wp2_with fail
            refine (div_any _ _ p.natAbs G m m w1 (NX1.out) NG.out HP1.out HGM.out hm' hm' HG0.out).mono ?_
            rintro e w2 ⟨p', r1, rfl, np, nr, k2⟩
            obtain ⟨pa, pl, pc, rfl, _⟩ := np.shape
            obtain ⟨ra, rl, rc, rfl, _⟩ := nr.shape
            have C2 : Cl b [.bool (decide (p < 0)), .slice xa xl xc, .bool (decide (q < 0)), .slice ya yl yc] 60 w2 := HC1.out.below k2
            have HC2 : Hid (Cl b [.bool (decide (p < 0)), .slice xa xl xc, .bool (decide (q < 0)), .slice ya yl yc] 60 w2) := C2
            have NP2 : Hid (NS w2 (.slice pa pl pc) (p.natAbs / G)) := np
            have NY2 : Hid (NS w2 (.slice ya yl yc) q.natAbs) := NY1.out.below k2 (Nat.le_refl _)
            have NG2 : Hid (NS w2 (.slice (some ⟨gg, 0, none⟩) 1 gc) G) := NG.out.below k2 (Nat.le_refl _)
            have HU2 : Hid (Upd b w w2) := HU1.out.trans (Upd.of_below k2)
            have y3 := C2.cell 3
            have y1 := C2.cell 1
            simp only [List.getElem?_cons_succ, List.getElem?_cons_zero] at y3 y1
            clear np nr k2 C2 z1 z3
            go_wp2_with fail
            refine (div_any _ _ q.natAbs G m m w2 NY2.out NG2.out HQ1.out HGM.out hm' hm' HG0.out).mono ?_
            rintro e w3 ⟨q', r2, rfl, nq, nr, k3⟩
            obtain ⟨qa, ql, qc, rfl, _⟩ := nq.shape
            obtain ⟨sa, sl, sc, rfl, _⟩ := nr.shape
            have C3 : Cl b [.bool (decide (p < 0)), .slice xa xl xc, .bool (decide (q < 0)), .slice ya yl yc] 60 w3 := HC2.out.below k3
            have f1 := C3.frozen 1
            have f3 := C3.frozen 3
            clear y1 y3
            have y3 := C3.cell 3
            have y1 := C3.cell 1
            simp only [List.getElem?_cons_succ, List.getElem?_cons_zero] at y3 y1
            have HEnd : Hid (∃ P Q : Int, RatAt ((w3.setCell ⟨b, 1, none⟩ (.slice pa pl pc)).setCell ⟨b, 3, none⟩ (.slice qa ql qc)) b P Q ∧ 0 < Q ∧ P * q = p * Q ∧ Nat.gcd P.natAbs Q.natAbs = 1 ∧ P.natAbs ≤ p.natAbs ∧ Q.natAbs ≤ q.natAbs ∧ Upd b w ((w3.setCell ⟨b, 1, none⟩ (.slice pa pl pc)).setCell ⟨b, 3, none⟩ (.slice qa ql qc))) := norm_end hq HP0.out HGE.out C3 (NP2.out.below k3 (Nat.le_refl _)) nq (HU2.out.trans (Upd.of_below k3))
            clear nq nr k3 C3
            go_wp2
            go_ret
            exact ⟨rfl, HEnd.out⟩
          · have hgb : ((gl : Int) == 1) = false := beq_eq_false_iff_ne.2 (by intro e; exact hgl (by exact_mod_cast e))
            clear g1 g2 hG1 hgl
            go_wp2_with fail
            refine (div_any _ _ p.natAbs G m m w1 (NX1.out) NG.out HP1.out HGM.out hm' hm' HG0.out).mono ?_
            rintro e w2 ⟨p', r1, rfl, np, nr, k2⟩
            obtain ⟨pa, pl, pc, rfl, _⟩ := np.shape
            obtain ⟨ra, rl, rc, rfl, _⟩ := nr.shape
            have C2 : Cl b [.bool (decide (p < 0)), .slice xa xl xc, .bool (decide (q < 0)), .slice ya yl yc] 60 w2 := HC1.out.below k2
            have HC2 : Hid (Cl b [.bool (decide (p < 0)), .slice xa xl xc, .bool (decide (q < 0)), .slice ya yl yc] 60 w2) := C2
            have NP2 : Hid (NS w2 (.slice pa pl pc) (p.natAbs / G)) := np
            have NY2 : Hid (NS w2 (.slice ya yl yc) q.natAbs) := NY1.out.below k2 (Nat.le_refl _)
            have NG2 : Hid (NS w2 (.slice ga gl gc) G) := NG.out.below k2 (Nat.le_refl _)
            have HU2 : Hid (Upd b w w2) := HU1.out.trans (Upd.of_below k2)
            have y3 := C2.cell 3
            have y1 := C2.cell 1
            simp only [List.getElem?_cons_succ, List.getElem?_cons_zero] at y3 y1
            clear np nr k2 C2 z1 z3
            go_wp2_with fail
            refine (div_any _ _ q.natAbs G m m w2 NY2.out NG2.out HQ1.out HGM.out hm' hm' HG0.out).mono ?_
            rintro e w3 ⟨q', r2, rfl, nq, nr, k3⟩
            obtain ⟨qa, ql, qc, rfl, _⟩ := nq.shape
            obtain ⟨sa, sl, sc, rfl, _⟩ := nr.shape
            have C3 : Cl b [.bool (decide (p < 0)), .slice xa xl xc, .bool (decide (q < 0)), .slice ya yl yc] 60 w3 := HC2.out.below k3
            have f1 := C3.frozen 1
            have f3 := C3.frozen 3
            clear y1 y3
            have y3 := C3.cell 3
            have y1 := C3.cell 1
            simp only [List.getElem?_cons_succ, List.getElem?_cons_zero] at y3 y1
            have HEnd : Hid (∃ P Q : Int, RatAt ((w3.setCell ⟨b, 1, none⟩ (.slice pa pl pc)).setCell ⟨b, 3, none⟩ (.slice qa ql qc)) b P Q ∧ 0 < Q ∧ P * q = p * Q ∧ Nat.gcd P.natAbs Q.natAbs = 1 ∧ P.natAbs ≤ p.natAbs ∧ Q.natAbs ≤ q.natAbs ∧ Upd b w ((w3.setCell ⟨b, 1, none⟩ (.slice pa pl pc)).setCell ⟨b, 3, none⟩ (.slice qa ql qc))) := norm_end hq HP0.out HGE.out C3 (NP2.out.below k3 (Nat.le_refl _)) nq (HU2.out.trans (Upd.of_below k3))
            clear nq nr k3 C3
            go_wp2
            go_ret
            exact ⟨rfl, HEnd.out⟩
end Go.Proofs.YtcnfhndejkngkaaGreatDoor
