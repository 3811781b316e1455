import Derived.Test.YtcnfhndejkngkaaGreatDoorRaB
import Derived.Test.YtcnfhndejkngkaaGreatDoorBigM
import Derived.Test.YtcnfhndejkngkaaGreatDoorJpG
section
set_option linter.unusedSimpArgs false
set_option linter.unusedVariables false
set_option maxRecDepth 100000
namespace Go.Proofs.YtcnfhndejkngkaaGreatDoor
open Go.RowKit
theorem Sl.updR {b : Nat} {w w' : World} {s : Value} {l : List Nat} {c : List Value} (h : Sl w s l) (hu : Upd b w w') (hs : Cl b c 60 w) : Sl w' s l := by
  refine ⟨h.small, ?_⟩
  rcases h.shape with h1 | ⟨g, cap, C, h1, h2, h3, h4⟩
  · exact Or.inl h1
  · refine Or.inr ⟨g, cap, C, h1, h2, ?_, h4⟩
    rw [hu.block g (lt_of_some h3) ?_]; exact h3
    intro e; subst e
    have h5 : w.heap[g]? = some (.cells c.toArray 60) := hs
    rw [h3] at h5; simp at h5
theorem NS.updR {b : Nat} {w w' : World} {s : Value} {n : Nat} {c : List Value} (h : NS w s n) (hu : Upd b w w') (hs : Cl b c 60 w) : NS w' s n := by
  obtain ⟨l, h1, h2⟩ := h; exact ⟨l, h1.updR hu hs, h2⟩
def RatAt (w : World) (b : Nat) (p q : Int) : Prop := ∃ s t, Cl b [.bool (decide (p < 0)), s, .bool (decide (q < 0)), t] 60 w ∧ NS w s p.natAbs ∧ NS w t q.natAbs
theorem RatAt.num {w : World} {b : Nat} {p q : Int} (h : RatAt w b p q) : IntAt w b 0 p := by
  obtain ⟨s, t, h1, h2, h3⟩ := h
  exact ⟨h1.lt, s, h1.cell 0, h1.cell 1, h2⟩
theorem RatAt.den {w : World} {b : Nat} {p q : Int} (h : RatAt w b p q) : IntAt w b 2 q := by
  obtain ⟨s, t, h1, h2, h3⟩ := h
  exact ⟨h1.lt, t, h1.cell 2, h1.cell 3, h3⟩
theorem RatAt.below {w w' : World} {b : Nat} {p q : Int} (h : RatAt w b p q) (k : Below w.heap.size w w') : RatAt w' b p q := by
  obtain ⟨s, t, h1, h2, h3⟩ := h
  exact ⟨s, t, h1.below k, h2.below k (Nat.le_refl _), h3.below k (Nat.le_refl _)⟩
theorem give_endN {w : World} {b : Nat} {s x0 x1 x2 x3 : Value} (hz : Cl b [x0, x1, x2, x3] 60 w) (q : Bool) (n : Int) (hq : q = decide (n < 0)) :
    Cl b [.bool (decide (n < 0)), s, x2, x3] 60 ((w.setCell ⟨b, 1, none⟩ s).setCell ⟨b, 0, none⟩ (.bool q)) ∧ Upd b w ((w.setCell ⟨b, 1, none⟩ s).setCell ⟨b, 0, none⟩ (.bool q)) := by
  subst hq
  exact ⟨(hz.set 1 s).set 0 (.bool (decide (n < 0))), Upd.setCell (o := 0) (Upd.setCell (o := 1) (Upd.refl b w) s) _⟩
set_option maxHeartbeats 400000 in
theorem give_num (b : Nat) (neg : Bool) (s x0 x1 x2 x3 : Value) (m : Nat) (w : World) (hz : Cl b [x0, x1, x2, x3] 60 w) (hs : NS w s m) :
    Calls Tryz.prog 55 #[.pointer (some ⟨b, 0, none⟩), .bool neg, s] w fun e w' => e = .returned (.pointer (some ⟨b, 0, none⟩)) ∧ Cl b [.bool (decide (sgd neg m < 0)), s, x2, x3] 60 w' ∧ Upd b w w' := by
  have c0 := hz.cell 0
  have c1 := hz.cell 1
  have f0 := hz.frozen 0
  have f1 := hz.frozen 1
  simp at c0 c1
  obtain ⟨aa, len, cap, rfl, hlen⟩ := hs.shape
  have HZ : Hid (Cl b [x0, x1, x2, x3] 60 w) := hz
  have HL : Hid (0 < len ↔ 0 < m) := hlen
  clear hz hs hlen
  cases neg <;> by_cases hp : 0 < len
  all_goals
    go_enter Tryz.func55, Tryz.ntmps55
    go_wp2
    go_ret
    refine ⟨rfl, give_endN HZ.out _ _ ?_⟩
    have := HL.out; simp [sgd]; try omega
theorem give_endD {w : World} {b : Nat} {s x0 x1 x2 x3 : Value} (hz : Cl b [x0, x1, x2, x3] 60 w) (q : Bool) (n : Int) (hq : q = decide (n < 0)) :
    Cl b [x0, x1, .bool (decide (n < 0)), s] 60 ((w.setCell ⟨b, 3, none⟩ s).setCell ⟨b, 2, none⟩ (.bool q)) ∧ Upd b w ((w.setCell ⟨b, 3, none⟩ s).setCell ⟨b, 2, none⟩ (.bool q)) := by
  subst hq
  exact ⟨(hz.set 3 s).set 2 (.bool (decide (n < 0))), Upd.setCell (o := 2) (Upd.setCell (o := 3) (Upd.refl b w) s) _⟩
set_option maxHeartbeats 400000 in
theorem give_den (b : Nat) (neg : Bool) (s x0 x1 x2 x3 : Value) (m : Nat) (w : World) (hz : Cl b [x0, x1, x2, x3] 60 w) (hs : NS w s m) :
    Calls Tryz.prog 55 #[.pointer (some ⟨b, 2, none⟩), .bool neg, s] w fun e w' => e = .returned (.pointer (some ⟨b, 2, none⟩)) ∧ Cl b [x0, x1, .bool (decide (sgd neg m < 0)), s] 60 w' ∧ Upd b w w' := by
  have c0 := hz.cell 2
  have c1 := hz.cell 3
  have f0 := hz.frozen 2
  have f1 := hz.frozen 3
  simp at c0 c1
  obtain ⟨aa, len, cap, rfl, hlen⟩ := hs.shape
  have HZ : Hid (Cl b [x0, x1, x2, x3] 60 w) := hz
  have HL : Hid (0 < len ↔ 0 < m) := hlen
  clear hz hs hlen
  cases neg <;> by_cases hp : 0 < len
  all_goals
    go_enter Tryz.func55, Tryz.ntmps55
    go_wp2
    go_ret
    refine ⟨rfl, give_endD HZ.out _ _ ?_⟩
    have := HL.out; simp [sgd]; try omega
end Go.Proofs.YtcnfhndejkngkaaGreatDoor
end

section
set_option linter.unusedSimpArgs false
set_option linter.unusedVariables false
set_option maxRecDepth 100000
namespace Go.Proofs.YtcnfhndejkngkaaGreatDoor
open Go.RowKit
theorem least_of (P : Nat → Prop) (h : ∃ n, P n) : ∃ n, P n ∧ ∀ k, P k → n ≤ k := by
  obtain ⟨n, hn⟩ := h
  induction n using Nat.strongRecOn with
  | _ n ih =>
    by_cases h : ∃ k, k < n ∧ P k
    · obtain ⟨k, h1, h2⟩ := h; exact ih k h1 h2
    · exact ⟨n, hn, fun k hk => by rcases Nat.lt_or_ge k n with h3 | h3
                                   · exact absurd ⟨k, h3, hk⟩ h
                                   · exact h3⟩
theorem ghost_two {α β : Type} (R : Nat → α → β → World → Prop) : ∃ μ : α → β → World → Nat, ∀ a b w, (∃ n, R n a b w) → R (μ a b w) a b w ∧ ∀ n, R n a b w → μ a b w ≤ n := by
  refine ⟨fun a b w => open Classical in if h : ∃ n, R n a b w then Classical.choose (least_of _ h) else 0, fun a b w h => ?_⟩
  simp only [h, dite_true]
  exact Classical.choose_spec (least_of _ h)
def CmR (G m : Nat) (w : World) (B : Nat) (av bv : Value) (wx : World) : Prop := ∃ A, NS wx av A ∧ NS wx bv B ∧ A < pw m ∧ B < pw m ∧ Nat.gcd A B = G ∧ 0 < A ∧ Below w.heap.size w wx
set_option maxHeartbeats 2000000 in
theorem common_any (s t : Value) (a b m : Nat) (w : World) (ha : NS w s a) (hb : NS w t b) (hm : a < pw m) (hn : b < pw m) (hm' : m ≤ 100000000) (ha0 : 0 < a) :
    Calls Tryz.prog 91 #[s, t] w fun e w' => ∃ r, e = .returned r ∧ NS w' r (Nat.gcd a b) ∧ Below w.heap.size w w' := by
  obtain ⟨μ, hμ⟩ := ghost_two (CmR (Nat.gcd a b) m w)
  have HM : Hid (∀ x y wx, (∃ n, CmR (Nat.gcd a b) m w n x y wx) → CmR (Nat.gcd a b) m w (μ x y wx) x y wx ∧ ∀ n, CmR (Nat.gcd a b) m w n x y wx → μ x y wx ≤ n) := hμ
  have H0 : Hid (CmR (Nat.gcd a b) m w b s t w) := ⟨a, ha, hb, hm, hn, rfl, ha0, Below.refl _ _⟩
  obtain ⟨sa, sl, sc, rfl, _⟩ := ha.shape
  obtain ⟨ta, tl, tc, rfl, _⟩ := hb.shape
  clear hμ ha hb hm hn ha0
  go_enter Tryz.func91, Tryz.ntmps91
  go_wp2_with fail
  go_loopw [0, 1] (fun av bv wx => ∃ B, CmR (Nat.gcd a b) m w B av bv wx) (fun av bv wx => μ av bv wx)
  case atStart => exact ⟨b, H0.out⟩
  case round =>
    clear H0
    obtain ⟨B, hB⟩ : ∃ B, B = μ u0 u1 wr := ⟨_, rfl⟩
    have hst := (HM.out u0 u1 wr hrel).1
    rw [← hB] at hst
    obtain ⟨A, hA, hBn, hAm, hBm, hG, hA0, hbw⟩ := hst
    obtain ⟨xa, xl, xc, rfl, hxl⟩ := hA.shape
    obtain ⟨ya, yl, yc, rfl, hyl⟩ := hBn.shape
    have hys := hBn.short
    have hxs := hA.short
    have HB : Hid (B = μ (.slice xa xl xc) (.slice ya yl yc) wr) := hB
    have HA : Hid (NS wr (.slice xa xl xc) A ∧ NS wr (.slice ya yl yc) B ∧ A < pw m ∧ B < pw m ∧ Nat.gcd A B = Nat.gcd a b ∧ Below w.heap.size w wr) := ⟨hA, hBn, hAm, hBm, hG, hbw⟩
    clear hA hBn hAm hBm hG hbw hB hrel
    by_cases hl : 2 < yl
    · have hB0 : 0 < B := by omega
      have hli : (2 : Int) < (yl : Int) := by omega
      go_wp2_with fail
      refine (div_any _ _ A B m m wr HA.out.1 HA.out.2.1 HA.out.2.2.1 HA.out.2.2.2.1 hm' hm' hB0).mono ?_
      rintro e w1 ⟨q, r, rfl, hq, hr, k1⟩
      obtain ⟨qa, ql, qc, rfl, _⟩ := hq.shape
      obtain ⟨ra, rl, rc, rfl, _⟩ := hr.shape
      have HR : Hid (CmR (Nat.gcd a b) m w (A % B) (.slice ya yl yc) (.slice ra rl rc) w1) := ⟨B, HA.out.2.1.below k1 (Nat.le_refl _), hr, HA.out.2.2.2.1, Nat.lt_of_le_of_lt (Nat.mod_le _ _) HA.out.2.2.1, by rw [← HA.out.2.2.2.2.1, Nat.gcd_comm A B, Nat.gcd_comm B (A % B)]; exact (Nat.gcd_rec B A).symm, hB0, HA.out.2.2.2.2.2.trans (k1.mono HA.out.2.2.2.2.2.size)⟩
      have HMu : Hid (μ (.slice ya yl yc) (.slice ra rl rc) w1 < μ (.slice xa xl xc) (.slice ya yl yc) wr) := by
        show _ < _
        have h1 := (HM.out _ _ _ ⟨A % B, HR.out⟩).2 (A % B) HR.out
        have h2 := HB.out
        have h3 := Nat.mod_lt A hB0
        omega
      clear hq hr k1 HM HB HA hys hxs
      go_wp2
      go_roundw
      case rel => exact ⟨A % B, HR.out⟩
      case measure => exact HMu.out
    · clear HM HB
      have hli : ¬ (2 : Int) < (yl : Int) := by omega
      by_cases hy0 : yl = 0
      · have hB0 : B = 0 := by omega
        have HO : Hid (NS wr (.slice xa xl xc) (Nat.gcd a b) ∧ Below w.heap.size w wr) := ⟨by rw [← HA.out.2.2.2.2.1, hB0, Nat.gcd_zero_right]; exact HA.out.1, HA.out.2.2.2.2.2⟩
        subst hy0
        clear HA hys hxs hyl hxl
        go_wp2
        go_ret
        exact ⟨_, rfl, HO.out⟩
      · have hB0 : 0 < B := by omega
        have hB64 : B < 18446744073709551616 := by omega
        have hy1 : ((yl : Int) == 0) = false := beq_eq_false_iff_ne.2 (by omega)
        have hcase : xl ≤ 2 ∨ 2 < xl := by omega
        rcases hcase with hx | hx
        case' inl =>
          have hxi : ¬ (2 : Int) < (xl : Int) := by omega
          have hP64 : A < 18446744073709551616 := by omega
          obtain ⟨P, hP⟩ : ∃ P, P = A := ⟨_, rfl⟩
          obtain ⟨Q, hQ⟩ : ∃ Q, Q = B := ⟨_, rfl⟩
          obtain ⟨V, hV⟩ : ∃ V, V = wr := ⟨_, rfl⟩
          have HP : Hid (NS V (.slice xa xl xc) P ∧ NS V (.slice ya yl yc) Q ∧ Nat.gcd P Q = Nat.gcd a b ∧ Below w.heap.size w V) := by
            rw [hP, hQ, hV]; exact ⟨HA.out.1, HA.out.2.1, HA.out.2.2.2.2.1, HA.out.2.2.2.2.2⟩
          have hQ64 : Q < 18446744073709551616 := by omega
          rw [← hP] at hP64
          clear hys hxs hxl hyl HA
          go_wp2_with fail
          rw [← hV]
          clear hV hP hQ
        case' inr =>
          have hxi : (2 : Int) < (xl : Int) := by omega
          go_wp2_with fail
          refine (div_any _ _ A B m m wr HA.out.1 HA.out.2.1 HA.out.2.2.1 HA.out.2.2.2.1 hm' hm' hB0).mono ?_
          rintro e V ⟨q, r, rfl, hq, hr, k1⟩
          obtain ⟨qa, ql, qc, rfl, _⟩ := hq.shape
          obtain ⟨ra, rl, rc, rfl, _⟩ := hr.shape
          obtain ⟨P, hP⟩ : ∃ P, P = B := ⟨_, rfl⟩
          obtain ⟨Q, hQ⟩ : ∃ Q, Q = A % B := ⟨_, rfl⟩
          have HP : Hid (NS V (.slice ya yl yc) P ∧ NS V (.slice ra rl rc) Q ∧ Nat.gcd P Q = Nat.gcd a b ∧ Below w.heap.size w V) := by
            rw [hP, hQ]; exact ⟨HA.out.2.1.below k1 (Nat.le_refl _), hr, by rw [← HA.out.2.2.2.2.1, Nat.gcd_comm A B, Nat.gcd_comm B (A % B)]; exact (Nat.gcd_rec B A).symm, HA.out.2.2.2.2.2.trans (k1.mono HA.out.2.2.2.2.2.size)⟩
          have hP64 : P < 18446744073709551616 := by omega
          have hQ64 : Q < 18446744073709551616 := by have := Nat.mod_lt A hB0; omega
          clear hys hxs hxl hyl HA hq hr k1 hP hQ
          go_wp2_with fail
        all_goals
          refine (plain_any _ P V HP.out.1 hP64).mono ?_
          rintro e w2 ⟨rfl, q2, hw2⟩
          have hp2 := HP.out.2.1.drewN (q := q2)
          rw [← hw2] at hp2
          have HQ2 : Hid (type_of% hp2) := hp2
          have HG : Hid (Nat.gcd P Q = Nat.gcd a b ∧ Below w.heap.size w w2) := ⟨HP.out.2.2.1, by rw [hw2]; exact below_drewN' HP.out.2.2.2⟩
          clear hp2 hw2 HP
          go_wp2_with fail
          refine (plain_any _ Q w2 HQ2.out hQ64).mono ?_
          rintro e w3 ⟨rfl, q3, hw3⟩
          have HG3 : Hid (Nat.gcd P Q = Nat.gcd a b ∧ Below w.heap.size w w3) := ⟨HG.out.1, by rw [hw3]; exact below_drewN' HG.out.2⟩
          clear hw3 HQ2 HG
          go_wp2_with fail
          go_loopw [9, 10] (fun xv yv wx => ∃ X Y : Nat, xv = .int .u64 (X : Int) ∧ yv = .int .u64 (Y : Int) ∧ X < 18446744073709551616 ∧ Y < 18446744073709551616 ∧ Hid (Nat.gcd X Y = Nat.gcd a b) ∧ Hid (∃ k, wx = w3.drewN k)) (fun _ yv _ => (intOf yv).toNat)
          case atStart => exact ⟨P, Q, rfl, rfl, hP64, hQ64, HG3.out.1, ⟨0, rfl⟩⟩
          case round =>
            obtain ⟨X, Y, rfl, rfl, hX, hY, HXY, HW⟩ := hrel
            have HKw : Hid (Below w.heap.size w wr) := by obtain ⟨k, hk⟩ := HW.out; show Below _ _ _; rw [hk]; exact below_drewN' HG3.out.2
            by_cases hY0 : Y = 0
            · subst hY0
              have HXG : Hid (X = Nat.gcd a b) := by have h := HXY.out; rw [Nat.gcd_zero_right] at h; exact h
              clear HXY
              go_wp2_with fail
              refine (words_any X hX wr).mono ?_
              rintro e w4 ⟨r4, rfl, h4, k4⟩
              obtain ⟨a4, l4, c4, rfl, _⟩ := h4.shape
              have HO : Hid (NS w4 (.slice a4 l4 c4) (Nat.gcd a b) ∧ Below w.heap.size w w4) := ⟨by rw [← HXG.out]; exact h4, HKw.out.trans (k4.mono HKw.out.size)⟩
              clear h4 k4
              go_wp2
              go_ret
              exact ⟨_, rfl, HO.out⟩
            · have hYp : (0 : Int) < (Y : Int) := by omega
              have hYz : ((Y : Int) == 0) = false := beq_eq_false_iff_ne.2 (by omega)
              obtain ⟨R, hR⟩ : ∃ R : Nat, R = X % Y := ⟨_, rfl⟩
              have hRI : Int.tmod (X : Int) (Y : Int) = (R : Int) := by rw [hR]; rfl
              have hRE : (X : Int) % (Y : Int) = (R : Int) := by rw [hR, Int.natCast_emod]
              have hRl : R < Y := by rw [hR]; exact Nat.mod_lt _ (by omega)
              have HXG : Hid (Nat.gcd Y R = Nat.gcd a b) := by
                show _ = _
                rw [← HXY.out, hR, Nat.gcd_comm X Y, Nat.gcd_comm Y (X % Y)]; exact (Nat.gcd_rec Y X).symm
              clear HXY hR HKw
              go_wp2
              go_quiet (fail)
              go_wp2
              go_roundw
              case rel => exact ⟨Y, R, rfl, by go_num, hY, by omega, HXG.out, drewN_more HW.out _⟩
              case measure => simp [intOf]; omega
end Go.Proofs.YtcnfhndejkngkaaGreatDoor
end

section
set_option linter.unusedSimpArgs false
set_option linter.unusedVariables false
set_option maxRecDepth 100000
namespace Go.Proofs.YtcnfhndejkngkaaGreatDoor
open Go.RowKit
set_option maxHeartbeats 1000000 in
theorem Neg_num (b : Nat) (p q : Int) (m : Nat) (w : World) (hz : RatAt w b p q) (hm : p.natAbs < pw m) (hm' : m ≤ 100000000) :
    Calls Tryz.prog 90 #[.pointer (some ⟨b, 0, none⟩), .pointer (some ⟨b, 0, none⟩)] w fun e w' => e = .returned (.pointer (some ⟨b, 0, none⟩)) ∧ RatAt w' b (-p) q ∧ Upd b w w' := by
  obtain ⟨xa, xl, xc, cx0, cx1, nx, _⟩ := (hz.num).open
  have lx := hz.num.lt
  have HZ : Hid (RatAt w b p q) := hz
  have NX : Hid (NS w (.slice xa xl xc) p.natAbs) := nx
  have HM : Hid (p.natAbs < pw m) := hm
  clear hz nx hm
  obtain ⟨p0, hp⟩ : ∃ p0, p0 = decide (p < 0) := ⟨_, rfl⟩
  rw [← hp] at cx0
  have HXY : Hid (sgd (!p0) p.natAbs = -p) := by show _ = _; rw [sgd_not, hp, sgd_self]
  clear hp
  go_enter Tryz.func90, Tryz.ntmps90
  go_wp2
  refine wp_region_G (fun w' => w'.cell? ⟨b, 0, none⟩ = some (.bool p0) ∧ w'.cell? ⟨b, 1, none⟩ = some (.slice xa xl xc)) 11 (by kernel_rfl) ⟨cx0, cx1⟩ (fun hHeld => ?_)
  refine wpAnyG_take (i := 0) (v := ?v0) rfl (by kernel_rfl) (fun _ _ _ h => h) (Or.inl ⟨by rfl, ?y0⟩) hHeld ?r0
  case y0 => (intro wS hSw; obtain ⟨s1, s2⟩ := hSw; go_simp; try with_reducible rfl)
  try simp only [Act.put, List.setIfInBounds_toArray, List.set_cons_zero, List.set_cons_succ]
  refine wpAnyG_take (i := 1) (v := ?v1) rfl (by kernel_rfl) (fun _ _ _ h => h) (Or.inl ⟨by rfl, ?y1⟩) hHeld ?r1
  case y1 => (intro wS hSw; obtain ⟨s1, s2⟩ := hSw; go_simp; try with_reducible rfl)
  try simp only [Act.put, List.setIfInBounds_toArray, List.set_cons_zero, List.set_cons_succ]
  refine wpAnyG_take (i := 2) (v := ?v2) rfl (by kernel_rfl) (fun _ _ _ h => h) (Or.inl ⟨by rfl, ?y2⟩) hHeld ?r2
  case y2 => (intro wS hSw; obtain ⟨s1, s2⟩ := hSw; go_simp; try with_reducible rfl)
  try simp only [Act.put, List.setIfInBounds_toArray, List.set_cons_zero, List.set_cons_succ]
  refine wpAnyG_take (i := 3) (v := ?v3) rfl (by kernel_rfl) (fun _ _ _ h => h) (Or.inl ⟨by rfl, ?y3⟩) hHeld ?r3
  case y3 => (intro wS hSw; obtain ⟨s1, s2⟩ := hSw; go_simp; try with_reducible rfl)
  try simp only [Act.put, List.setIfInBounds_toArray, List.set_cons_zero, List.set_cons_succ]
  refine wpAnyG_take (i := 4) (v := ?v4) rfl (by kernel_rfl) (fun _ _ _ h => h) (Or.inl ⟨by rfl, ?y4⟩) hHeld ?r4
  case y4 => (intro wS hSw; obtain ⟨s1, s2⟩ := hSw; go_simp; try with_reducible rfl)
  try simp only [Act.put, List.setIfInBounds_toArray, List.set_cons_zero, List.set_cons_succ]
  refine wpAnyG_take (i := 5) (v := ?v5) rfl (by kernel_rfl) (fun _ _ _ h => h) (Or.inl ⟨by rfl, ?y5⟩) hHeld ?r5
  case y5 => (intro wS hSw; obtain ⟨s1, s2⟩ := hSw; go_simp; try with_reducible rfl)
  try simp only [Act.put, List.setIfInBounds_toArray, List.set_cons_zero, List.set_cons_succ]
  refine wpAnyG_take (i := 6) (v := ?v6) rfl (by kernel_rfl) (fun _ _ _ h => h) (Or.inl ⟨by rfl, ?y6⟩) hHeld ?r6
  case y6 => (intro wS hSw; obtain ⟨s1, s2⟩ := hSw; go_simp; try with_reducible rfl)
  try simp only [Act.put, List.setIfInBounds_toArray, List.set_cons_zero, List.set_cons_succ]
  refine wpAnyG_take (i := 7) (v := ?v7) rfl (by kernel_rfl) (fun _ _ _ h => h) (Or.inl ⟨by rfl, ?y7⟩) hHeld ?r7
  case y7 => (intro wS hSw; obtain ⟨s1, s2⟩ := hSw; go_simp; try with_reducible rfl)
  try simp only [Act.put, List.setIfInBounds_toArray, List.set_cons_zero, List.set_cons_succ]
  refine wpAnyG_take (i := 8) (v := ?v8) rfl (by kernel_rfl) (fun _ _ _ h => h) (Or.inl ⟨by rfl, ?y8⟩) hHeld ?r8
  case y8 => (intro wS hSw; obtain ⟨s1, s2⟩ := hSw; go_simp; try with_reducible rfl)
  try simp only [Act.put, List.setIfInBounds_toArray, List.set_cons_zero, List.set_cons_succ]
  refine wpAnyG_take (i := 9) (v := ?v9) rfl (by kernel_rfl) (fun _ _ _ h => h) (Or.inl ⟨by rfl, ?y9⟩) hHeld ?r9
  case y9 => (intro wS hSw; obtain ⟨s1, s2⟩ := hSw; go_simp; try with_reducible rfl)
  try simp only [Act.put, List.setIfInBounds_toArray, List.set_cons_zero, List.set_cons_succ]
  refine wpAnyG_one (i := 10) rfl (by kernel_rfl) (fun K hK => ?_)
  go_simp
  refine (twin_any _ p.natAbs m _ NX.out.drew HM.out hm').mono ?_
  rintro e w1 ⟨r, rfl, hr, hb⟩
  refine hK.out _ _ ⟨(hb.cell lx).trans cx0, (hb.cell lx).trans cx1⟩ ?_
  clear hK K
  try simp only [Act.put, List.setIfInBounds_toArray, List.set_cons_zero, List.set_cons_succ]
  refine wpAnyG_last (i := 11) rfl (by kernel_rfl) (by kernel_rfl) (fun K hK => ?_)
  go_simp
  obtain ⟨s0, t0, k1, k2, k3⟩ := HZ.out
  have c1 := (k1.drew).below hb
  refine (give_num b (!p0) r _ _ _ _ p.natAbs w1 c1 hr).mono ?_
  rw [HXY.out]
  rintro e w2 ⟨rfl, hbig, hu⟩
  refine hK.out _ _ ?_
  clear hK K
  try simp only [Act.put, List.setIfInBounds_toArray, List.set_cons_zero, List.set_cons_succ]
  refine wpAnyG_last (i := 12) rfl (by kernel_rfl) (by kernel_rfl) (fun K hK => ?_)
  go_simp
  refine hK.out _ _ ?_
  clear hK K
  try simp only [Act.put, List.setIfInBounds_toArray, List.set_cons_zero, List.set_cons_succ]
  refine wpAnyG_done (by kernel_rfl) ?_ _
  go_wp2
  go_ret
  refine ⟨rfl, ⟨_, _, hbig, ?_, ?_⟩, (Upd.refl b w).drew.trans (Upd.then_below hb hu)⟩
  · first
    | (rw [Int.natAbs_neg]; exact hr.updR hu c1)
    | exact (k2.drew.below hb (Nat.le_refl _)).updR hu c1
  · first
    | (rw [Int.natAbs_neg]; exact hr.updR hu c1)
    | exact (k3.drew.below hb (Nat.le_refl _)).updR hu c1
set_option maxHeartbeats 1000000 in
theorem Neg_den (b : Nat) (p q : Int) (m : Nat) (w : World) (hz : RatAt w b p q) (hm : q.natAbs < pw m) (hm' : m ≤ 100000000) :
    Calls Tryz.prog 90 #[.pointer (some ⟨b, 2, none⟩), .pointer (some ⟨b, 2, none⟩)] w fun e w' => e = .returned (.pointer (some ⟨b, 2, none⟩)) ∧ RatAt w' b p (-q) ∧ Upd b w w' := by
  obtain ⟨xa, xl, xc, cx0, cx1, nx, _⟩ := (hz.den).open
  have lx := hz.num.lt
  have HZ : Hid (RatAt w b p q) := hz
  have NX : Hid (NS w (.slice xa xl xc) q.natAbs) := nx
  have HM : Hid (q.natAbs < pw m) := hm
  clear hz nx hm
  obtain ⟨p0, hp⟩ : ∃ p0, p0 = decide (q < 0) := ⟨_, rfl⟩
  rw [← hp] at cx0
  have HXY : Hid (sgd (!p0) q.natAbs = -q) := by show _ = _; rw [sgd_not, hp, sgd_self]
  clear hp
  go_enter Tryz.func90, Tryz.ntmps90
  go_wp2
  refine wp_region_G (fun w' => w'.cell? ⟨b, 2, none⟩ = some (.bool p0) ∧ w'.cell? ⟨b, 3, none⟩ = some (.slice xa xl xc)) 11 (by kernel_rfl) ⟨cx0, cx1⟩ (fun hHeld => ?_)
  refine wpAnyG_take (i := 0) (v := ?v0) rfl (by kernel_rfl) (fun _ _ _ h => h) (Or.inl ⟨by rfl, ?y0⟩) hHeld ?r0
  case y0 => (intro wS hSw; obtain ⟨s1, s2⟩ := hSw; go_simp; try with_reducible rfl)
  try simp only [Act.put, List.setIfInBounds_toArray, List.set_cons_zero, List.set_cons_succ]
  refine wpAnyG_take (i := 1) (v := ?v1) rfl (by kernel_rfl) (fun _ _ _ h => h) (Or.inl ⟨by rfl, ?y1⟩) hHeld ?r1
  case y1 => (intro wS hSw; obtain ⟨s1, s2⟩ := hSw; go_simp; try with_reducible rfl)
  try simp only [Act.put, List.setIfInBounds_toArray, List.set_cons_zero, List.set_cons_succ]
  refine wpAnyG_take (i := 2) (v := ?v2) rfl (by kernel_rfl) (fun _ _ _ h => h) (Or.inl ⟨by rfl, ?y2⟩) hHeld ?r2
  case y2 => (intro wS hSw; obtain ⟨s1, s2⟩ := hSw; go_simp; try with_reducible rfl)
  try simp only [Act.put, List.setIfInBounds_toArray, List.set_cons_zero, List.set_cons_succ]
  refine wpAnyG_take (i := 3) (v := ?v3) rfl (by kernel_rfl) (fun _ _ _ h => h) (Or.inl ⟨by rfl, ?y3⟩) hHeld ?r3
  case y3 => (intro wS hSw; obtain ⟨s1, s2⟩ := hSw; go_simp; try with_reducible rfl)
  try simp only [Act.put, List.setIfInBounds_toArray, List.set_cons_zero, List.set_cons_succ]
  refine wpAnyG_take (i := 4) (v := ?v4) rfl (by kernel_rfl) (fun _ _ _ h => h) (Or.inl ⟨by rfl, ?y4⟩) hHeld ?r4
  case y4 => (intro wS hSw; obtain ⟨s1, s2⟩ := hSw; go_simp; try with_reducible rfl)
  try simp only [Act.put, List.setIfInBounds_toArray, List.set_cons_zero, List.set_cons_succ]
  refine wpAnyG_take (i := 5) (v := ?v5) rfl (by kernel_rfl) (fun _ _ _ h => h) (Or.inl ⟨by rfl, ?y5⟩) hHeld ?r5
  case y5 => (intro wS hSw; obtain ⟨s1, s2⟩ := hSw; go_simp; try with_reducible rfl)
  try simp only [Act.put, List.setIfInBounds_toArray, List.set_cons_zero, List.set_cons_succ]
  refine wpAnyG_take (i := 6) (v := ?v6) rfl (by kernel_rfl) (fun _ _ _ h => h) (Or.inl ⟨by rfl, ?y6⟩) hHeld ?r6
  case y6 => (intro wS hSw; obtain ⟨s1, s2⟩ := hSw; go_simp; try with_reducible rfl)
  try simp only [Act.put, List.setIfInBounds_toArray, List.set_cons_zero, List.set_cons_succ]
  refine wpAnyG_take (i := 7) (v := ?v7) rfl (by kernel_rfl) (fun _ _ _ h => h) (Or.inl ⟨by rfl, ?y7⟩) hHeld ?r7
  case y7 => (intro wS hSw; obtain ⟨s1, s2⟩ := hSw; go_simp; try with_reducible rfl)
  try simp only [Act.put, List.setIfInBounds_toArray, List.set_cons_zero, List.set_cons_succ]
  refine wpAnyG_take (i := 8) (v := ?v8) rfl (by kernel_rfl) (fun _ _ _ h => h) (Or.inl ⟨by rfl, ?y8⟩) hHeld ?r8
  case y8 => (intro wS hSw; obtain ⟨s1, s2⟩ := hSw; go_simp; try with_reducible rfl)
  try simp only [Act.put, List.setIfInBounds_toArray, List.set_cons_zero, List.set_cons_succ]
  refine wpAnyG_take (i := 9) (v := ?v9) rfl (by kernel_rfl) (fun _ _ _ h => h) (Or.inl ⟨by rfl, ?y9⟩) hHeld ?r9
  case y9 => (intro wS hSw; obtain ⟨s1, s2⟩ := hSw; go_simp; try with_reducible rfl)
  try simp only [Act.put, List.setIfInBounds_toArray, List.set_cons_zero, List.set_cons_succ]
  refine wpAnyG_one (i := 10) rfl (by kernel_rfl) (fun K hK => ?_)
  go_simp
  refine (twin_any _ q.natAbs m _ NX.out.drew HM.out hm').mono ?_
  rintro e w1 ⟨r, rfl, hr, hb⟩
  refine hK.out _ _ ⟨(hb.cell lx).trans cx0, (hb.cell lx).trans cx1⟩ ?_
  clear hK K
  try simp only [Act.put, List.setIfInBounds_toArray, List.set_cons_zero, List.set_cons_succ]
  refine wpAnyG_last (i := 11) rfl (by kernel_rfl) (by kernel_rfl) (fun K hK => ?_)
  go_simp
  obtain ⟨s0, t0, k1, k2, k3⟩ := HZ.out
  have c1 := (k1.drew).below hb
  refine (give_den b (!p0) r _ _ _ _ q.natAbs w1 c1 hr).mono ?_
  rw [HXY.out]
  rintro e w2 ⟨rfl, hbig, hu⟩
  refine hK.out _ _ ?_
  clear hK K
  try simp only [Act.put, List.setIfInBounds_toArray, List.set_cons_zero, List.set_cons_succ]
  refine wpAnyG_last (i := 12) rfl (by kernel_rfl) (by kernel_rfl) (fun K hK => ?_)
  go_simp
  refine hK.out _ _ ?_
  clear hK K
  try simp only [Act.put, List.setIfInBounds_toArray, List.set_cons_zero, List.set_cons_succ]
  refine wpAnyG_done (by kernel_rfl) ?_ _
  go_wp2
  go_ret
  refine ⟨rfl, ⟨_, _, hbig, ?_, ?_⟩, (Upd.refl b w).drew.trans (Upd.then_below hb hu)⟩
  · first
    | (rw [Int.natAbs_neg]; exact hr.updR hu c1)
    | exact (k2.drew.below hb (Nat.le_refl _)).updR hu c1
  · first
    | (rw [Int.natAbs_neg]; exact hr.updR hu c1)
    | exact (k3.drew.below hb (Nat.le_refl _)).updR hu c1
end Go.Proofs.YtcnfhndejkngkaaGreatDoor
end

section
set_option linter.unusedSimpArgs false
set_option linter.unusedVariables false
set_option maxRecDepth 100000
namespace Go.Proofs.YtcnfhndejkngkaaGreatDoor
open Go.RowKit
set_option maxHeartbeats 400000 in
theorem SetInt64_den (b : Nat) (p q : Int) (w : World) (hz : RatAt w b p q) :
    Calls Tryz.prog 75 #[.pointer (some ⟨b, 2, none⟩), .int .i64 1] w fun e w' => e = .returned (.pointer (some ⟨b, 2, none⟩)) ∧ RatAt w' b p 1 ∧ Upd b w w' := by
  have HZ : Hid (RatAt w b p q) := hz
  clear hz
  go_enter Tryz.func75, Tryz.ntmps75
  go_wp2_with fail
  refine (words_any 1 (by omega) _).mono ?_
  rintro e w1 ⟨s, rfl, hns, hb⟩
  obtain ⟨s0, t0, k1, k2, k3⟩ := HZ.out
  have c1 := k1.below hb
  have HO : Hid (Cl b [.bool (decide (p < 0)), s0, .bool (decide (q < 0)), t0] 60 w1 ∧ NS w1 s0 p.natAbs ∧ NS w1 s 1 ∧ Below w.heap.size w w1) := ⟨c1, k2.below hb (Nat.le_refl _), hns, hb⟩
  clear c1 k1 k2 k3 hns hb
  go_wp2_with fail
  refine (give_den b false s _ _ _ _ 1 w1 HO.out.1 HO.out.2.2.1).mono ?_
  rintro e w2 ⟨rfl, hbig, hu⟩
  have HF : Hid (RatAt w2 b p 1 ∧ Upd b w w2) := ⟨⟨_, _, hbig, HO.out.2.1.updR hu HO.out.1, HO.out.2.2.1.updR hu HO.out.1⟩, Upd.then_below HO.out.2.2.2 hu⟩
  clear hbig hu HO
  go_wp2
  go_ret
  exact ⟨rfl, HF.out⟩
end Go.Proofs.YtcnfhndejkngkaaGreatDoor
end
