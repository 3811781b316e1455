/- The reference: WholePoints. -/
import Derived.Test.YtknnidbdgfimbaaJnE
import Derived.Test.YtknnidbdgfimbaaTrG
import Derived.Test.YtknnidbdgfimbaaRqG
import Derived.Test.YtknnidbdgfimbaaTpF
set_option linter.unusedSimpArgs false
set_option linter.unusedVariables false
set_option maxRecDepth 100000
namespace Go.Proofs.Ytknnidbdgfimbaa
open Go.RowKit TN

/-- The cells of points. -/
def qcl : List (Int × Int) → List Value
  | [] => []
  | q :: l => Ql q.1 q.2 false ++ qcl l
theorem qcl_append (l k : List (Int × Int)) : qcl (l ++ k) = qcl l ++ qcl k := by
  induction l with
  | nil => rfl
  | cons q l ih => rw [List.cons_append, qcl, ih, qcl, List.append_assoc]
/-- The list so far. -/
structure Wq (l : List (Int × Int)) (aa : Option Addr) (cc : Nat) (w W : World) : Prop where
  row : W.ownsRow w.heap.size 30 3 (.slice aa l.length cc) l.length (qcl l)
  k : Below w.heap.size w W
theorem Wq.below {l : List (Int × Int)} {aa : Option Addr} {cc : Nat} {w W W' : World} (h : Wq l aa cc w W) (k : Below W.heap.size W W') : Wq l aa cc w W' :=
  ⟨trow_bel h.row k, h.k.trans (k.mono h.k.size)⟩

theorem wq_upd {l : List (Int × Int)} {aa : Option Addr} {cc z : Nat} {w W W' : World} (h : Wq l aa cc w W) (u : Upd z W W') (hz : Slot W z) (hb : w.heap.size ≤ z) : Wq l aa cc w W' := by
  refine ⟨trow_kept h.row fun g e => ?_, h.k.trans (u.below h.k.size hb)⟩
  obtain ⟨c, hc⟩ := trow_ty h.row e
  refine u.block g (lt_of_some hc) ?_
  intro e2
  subst e2
  obtain ⟨v0, v1, hs⟩ := hz
  rw [hc] at hs
  simp at hs
theorem root_nat {r s n : Nat} (h : r * r ≤ n ∧ n < (r + 1) * (r + 1)) (hs : s * s = n) : r = s := by
  rcases Nat.lt_trichotomy r s with g | g | g
  · have := Nat.mul_le_mul (show r + 1 ≤ s by omega) (show r + 1 ≤ s by omega); omega
  · exact g
  · have := Nat.mul_le_mul (show s + 1 ≤ r by omega) (show s + 1 ≤ r by omega)
    have e : (s + 1) * (s + 1) = s * s + 2 * s + 1 := by grind
    omega
set_option maxHeartbeats 4000000 in
theorem WholePoints_any (a b : Int) (w : World) (h : Cu a b) :
    Calls Try.prog 9 #[.int .i64 a, .int .i64 b] w fun e w' => ∃ (aa : Option Addr) (cc : Nat), e = .returned (.slice aa (lkA a b (-1700) 3401).length cc) ∧ Wq (lkA a b (-1700) 3401) aa cc w w' := by
  obtain ⟨k0, hk, hx0, hx1, hx2⟩ := info_parts Try.infoPq
  have HPt : Hid (Try.prog.info? 30 = some k0 ∧ k0.zero = some (.agg #[.int .i64 0, .int .i64 0, .bool false]) ∧ k0.size = 3 ∧ k0.bytes = 24) := ⟨hk, hx0, hx1, hx2⟩
  clear hk hx0 hx1 hx2
  have HC : Hid (Cu a b) := h
  have ha1 := h.a1
  have ha2 := h.a2
  have hb1 := h.b1
  have hb2 := h.b2
  obtain ⟨D, hD⟩ : ∃ D, dis a b = D := ⟨_, rfl⟩
  have HD : Hid (dis a b = D) := hD
  have hDb := h.bd
  have hD0 := h.d0
  rw [hD] at hDb hD0
  unfold dis at hD
  obtain ⟨p, hp⟩ : ∃ p, 4 * a * a = p := ⟨_, rfl⟩
  have e1 := tn_abs (M := 4000) (N := 1000) (show -4000 ≤ 4 * a by omega) (by omega) ha1 ha2
  rw [hp] at e1 hD
  obtain ⟨q, hq⟩ : ∃ q, p * a = q := ⟨_, rfl⟩
  have e2 := tn_abs (M := 4000000) (N := 1000) (show -4000000 ≤ p by omega) (by omega) ha1 ha2
  rw [hq] at e2 hD
  obtain ⟨r, hr⟩ : ∃ r, 27 * b * b = r := ⟨_, rfl⟩
  have e3 := tn_abs (M := 27000) (N := 1000) (show -27000 ≤ 27 * b by omega) (by omega) hb1 hb2
  rw [hr] at e3 hD
  have HSz : Hid (∀ w, Calls Try.prog 21 #[.int .i64 D] w fun e w' => e = .returned (.int .i64 (D.natAbs : Int)) ∧ w' = w) := fun w => refSize_any D w (by omega) (by omega)
  obtain ⟨d, hd⟩ : ∃ d : Nat, D.natAbs = d := ⟨_, rfl⟩
  have Hd : Hid (D.natAbs = d) := hd
  have hdb : 1 ≤ d ∧ d ≤ 4027000000 := by omega
  rw [hd] at HSz
  clear h hd
  go_enter Try.func9, Try.ntmps9
  go_wp2_with fail
  refine (HSz.out _).mono ?_
  rintro e w1 ⟨rfl, hw1⟩
  rw [hw1]
  clear hw1 w1 HSz
  go_wp2
  go_loopw [6, 7, 8, 9] (fun lv xv _ _ wx => ∃ (i : Nat) (aa : Option Addr) (cc : Nat), i ≤ 3401 ∧ lv = .slice aa (lkA a b (-1700) i).length cc ∧ xv = .int .i64 (-1700 + (i : Int)) ∧ Hid (Wq (lkA a b (-1700) i) aa cc w wx)) (fun _ xv _ _ _ => (1702 - intOf xv).toNat)
  case atStart => exact ⟨0, none, 0, by omega, rfl, rfl, World.ownsRow_nil _ _ _ _, Below.refl _ _⟩
  case round =>
    obtain ⟨i, aa, cc, hi, rfl, rfl, HQ⟩ := hrel
    obtain ⟨l, hl⟩ : ∃ l, lkA a b (-1700) i = l := ⟨_, rfl⟩
    have hll : l.length ≤ 6802 := by rw [← hl]; have := lkA_len a b (-1700) i; omega
    have HLL : Hid (lkA a b (-1700) i = l) := hl
    rw [hl] at HQ ⊢
    clear hl
    by_cases hlt : i < 3401
    · obtain ⟨x, hx⟩ : ∃ x, -1700 + (i : Int) = x := ⟨_, rfl⟩
      have hxb : -1700 ≤ x ∧ x ≤ 1700 := by omega
      have HX : Hid (-1700 + (i : Int) = x ∧ i < 3401) := ⟨hx, hlt⟩
      have t1 : decide (x ≤ 1700) = true := decide_eq_true (by omega)
      rw [hx]
      have HNext : Hid (lkA a b (-1700) (i + 1) = l ++ lkL a b x) := by show _ = _; rw [lkA, hx, HLL.out]
      clear hx hlt hi
      obtain ⟨s, hs⟩ : ∃ s, cub a b x = s := ⟨_, rfl⟩
      have HS : Hid (cub a b x = s) := hs
      unfold cub at hs
      obtain ⟨xx, hxx⟩ : ∃ p, x * x = p := ⟨_, rfl⟩
      have g1 := tn_abs (M := 1700) (N := 1700) (show -1700 ≤ x by omega) (by omega) (show -1700 ≤ x by omega) (by omega)
      rw [hxx] at g1 hs
      obtain ⟨x3, hx3⟩ : ∃ q, xx * x = q := ⟨_, rfl⟩
      have g2 := tn_abs (M := 1700 * 1700) (N := 1700) (show -(1700 * 1700) ≤ xx by omega) (by omega) (show -1700 ≤ x by omega) (by omega)
      rw [hx3] at g2 hs
      obtain ⟨ax, hax⟩ : ∃ r, a * x = r := ⟨_, rfl⟩
      have g3 := tn_abs (M := 1000) (N := 1700) (show -1000 ≤ a by omega) (by omega) (show -1700 ≤ x by omega) (by omega)
      rw [hax] at g3 hs
      by_cases c1 : s < 0
      · have t2 : decide (s < 0) = true := decide_eq_true c1
        have HO : Hid (lkL a b x = []) := lkL_none fun z hz => by have := lk_pos hz; have := HS.out; omega
        clear c1
        go_wp2
        refine ⟨⟨i + 1, aa, cc, by have := HX.out.2; omega, by rw [HNext.out, HO.out, List.append_nil], by rw [← HX.out.1]; congr 1; omega, ?_⟩, by simp [intOf]; omega⟩
        rw [HNext.out, HO.out, List.append_nil]
        exact HQ.out
      have t2 : decide (s < 0) = false := decide_eq_false c1
      by_cases c2 : (d : Int) < s
      · have t3 : decide ((d : Int) < s) = true := decide_eq_true c2
        have HO : Hid (lkL a b x = []) := lkL_none fun z hz => by
          have h1 := lk_dv hz (by rw [HS.out]; omega)
          rw [HS.out, HD.out] at h1
          have h2 := Int.dvd_of_emod_eq_zero h1
          have h3 := Nat.le_of_dvd (by omega) (Int.natAbs_dvd_natAbs.2 h2)
          have := Hd.out
          omega
        clear c1 c2
        go_wp2
        refine ⟨⟨i + 1, aa, cc, by have := HX.out.2; omega, by rw [HNext.out, HO.out, List.append_nil], by rw [← HX.out.1]; congr 1; omega, ?_⟩, by simp [intOf]; omega⟩
        rw [HNext.out, HO.out, List.append_nil]
        exact HQ.out
      have t3 : decide ((d : Int) < s) = false := decide_eq_false c2
      obtain ⟨n, hn⟩ : ∃ n : Nat, s = n := ⟨s.toNat, by omega⟩
      have hnb : n ≤ 4027000000 := by omega
      have HN : Hid (s = n) := hn
      have HIs : Hid (∀ w, Calls Try.prog 22 #[.int .i64 s] w fun e w' => ∃ r : Nat, (r * r ≤ n ∧ n < (r + 1) * (r + 1)) ∧ e = .returned (.bool (decide (r * r = n))) ∧ Below w.heap.size w w') := fun w => by rw [hn]; exact IsSquare_mid n w (by omega)
      clear c1 c2 hn
      go_wp2_with fail
      refine (HIs.out _).mono ?_
      rintro e w2 ⟨rr, ⟨q1, q2⟩, rfl, k2⟩
      have HQ2 : Hid (Wq l aa cc w w2) := HQ.out.below k2
      clear k2 HQ HIs
      by_cases c4 : rr * rr = n
      · rw [show decide (rr * rr = n) = true from decide_eq_true c4]
        have hsr : s = (rr : Int) * rr := by rw [HN.out, ← c4, Int.natCast_mul]
        have hrb : rr ≤ 100000 := by
          rcases Nat.lt_or_ge 100000 rr with g | g
          · have := Nat.mul_le_mul (show 100001 ≤ rr by omega) (show 100001 ≤ rr by omega); omega
          · exact g
        have HSR : Hid (s = (rr : Int) * rr) := hsr
        have HB : Hid (∀ w, Calls Try.prog 24 #[.int .i64 s] w fun e w' => ∃ b, e = .returned (.pointer (some ⟨b, 0, none⟩)) ∧ Made w w' b s) := fun w => B_any s w (by omega) (by omega)
        rcases Nat.eq_zero_or_pos rr with z0 | z0
        · subst z0
          obtain rfl : s = 0 := by omega
          have t5 : decide ((0 : Int) < 0) = false := by decide
          have HO : Hid (lkL a b x = [(x, 0)]) := lkL_zero ⟨by rw [HS.out]; omega, Or.inl rfl⟩
          clear c4 q1 q2 hsr
          go_wp2_with fail
          refine (HB.out _).mono ?_
          rintro e w3 ⟨b3, rfl, m1, m2, m3⟩
          have K3 : Below w2.heap.size w2 w3 := (tala w2 _).trans (m3.mono (by simp))
          have HQ3 : Hid (Wq l aa cc w w3 ∧ BigAt w3 b3 ((0 : Nat) : Int) ∧ Slot w3 w2.heap.size ∧ w.heap.size ≤ w2.heap.size) := ⟨HQ2.out.below K3, m2, (slot_new w2 _ _).below m3 (Nat.le_refl _), HQ2.out.k.size⟩
          clear m1 m2 m3 K3 HQ2
          go_wp2_with fail
          refine (Sqrt_mid w2.heap.size b3 0 w3 HQ3.out.2.2.1 HQ3.out.2.1 (by omega)).mono ?_
          rintro e w4 ⟨r4, rfl, v4, ⟨q3, q4⟩, u4⟩
          obtain rfl : r4 = 0 := by
            rcases Nat.eq_zero_or_pos r4 with g | g
            · exact g
            · have := Nat.mul_le_mul (show 1 ≤ r4 by omega) (show 1 ≤ r4 by omega); omega
          have HQ4 : Hid (Wq l aa cc w w4 ∧ BigAt w4 w2.heap.size ((0 : Nat) : Int)) := ⟨wq_upd HQ3.out.1 u4 HQ3.out.2.2.1 HQ3.out.2.2.2, v4⟩
          clear v4 q3 q4 u4 HQ3
          go_wp2_with fail
          refine (Int64_any w2.heap.size 0 w4 HQ4.out.2 (by decide)).mono ?_
          rintro e w5 ⟨rfl, q5, hw5⟩
          have HQ5 : Hid (Wq l aa cc w w5) := by show Wq _ _ _ _ _; rw [hw5]; exact HQ4.out.1.below (below_drewN' (Below.refl _ _))
          clear hw5 HQ4
          go_wp2_with (at_builtin; refine wpList_append_own _ rfl _ _ 25 rfl w.heap.size 30 k0 (.agg #[.int .i64 0, .int .i64 0, .bool false]) 3 24 Try.underlying25 HPt.out.1 HPt.out.2.1 HPt.out.2.2.1 HPt.out.2.2.2 rfl (by decide) (.slice aa l.length cc) l.length (qcl l) rfl (HQ5.out.row.alloc _) ⟨w5.heap.size, 0, none⟩ 1 1 [.int .i64 x, .int .i64 0, .bool false] rfl rfl (tnewsP (Cl.new [.int .i64 x, .int .i64 0, .bool false] 30 w5)) (by simp [Value.oneCell']) (by simp only [maxLen]; omega) (by omega) (by have := HQ5.out.k.size; simp <;> omega) ?_; intro v' w6 hown' hgrow _; obtain ⟨g6, c6, rfl⟩ := ownsRow_succ hown'; have HQ6 : Hid (Wq (l ++ [(x, 0)]) (some ⟨g6, 0, none⟩) c6 w w6) := ⟨by rw [List.length_append, qcl_append]; exact hown', (HQ5.out.k.alloc HQ5.out.k.size _).grown hgrow (by have := HQ5.out.k.size; simp <;> omega) (fun k e => (HQ5.out.row.lt k e).1)⟩; clear hown' hgrow)
          refine ⟨⟨i + 1, _, c6, by have := HX.out.2; omega, by rw [HNext.out, HO.out, List.length_append]; rfl, by rw [← HX.out.1]; congr 1; omega, ?_⟩, by simp [intOf]; omega⟩
          rw [HNext.out, HO.out]
          exact HQ6.out
        · have hs0 : 0 < s := by rw [hsr]; exact Int.mul_pos (by omega) (by omega)
          have t5 : decide (0 < s) = true := decide_eq_true hs0
          by_cases c6 : (d : Int) % s = 0
          · have t6 : ((d : Int) % s == 0) = true := beq_iff_eq.2 c6
            have t7 : ((d : Int).tmod s == 0) = true := beq_iff_eq.2 (Int.tmod_eq_zero_of_dvd (Int.dvd_of_emod_eq_zero c6))
            have HO : Hid (lkL a b x = [(x, -(rr : Int)), (x, (rr : Int))]) := lkL_pos (by omega) ⟨by rw [HS.out, hsr], Or.inr (by
              rw [← hsr, HD.out]
              have h1 := Int.dvd_of_emod_eq_zero c6
              have h2 : s ∣ D := by
                rcases Int.natAbs_eq D with g | g
                · rw [g, Hd.out]; exact h1
                · rw [g, Hd.out]; exact Int.dvd_neg.2 h1
              exact Int.emod_eq_zero_of_dvd h2)⟩
            clear c4 q1 q2 hsr c6
            go_wp2_with fail
            refine (HB.out _).mono ?_
            rintro e w3 ⟨b3, rfl, m1, m2, m3⟩
            have K3 : Below w2.heap.size w2 w3 := (tala w2 _).trans (m3.mono (by simp))
            have HQ3 : Hid (Wq l aa cc w w3 ∧ BigAt w3 b3 (n : Int) ∧ Slot w3 w2.heap.size ∧ w.heap.size ≤ w2.heap.size) := ⟨HQ2.out.below K3, by rw [← HN.out]; exact m2, (slot_new w2 _ _).below m3 (Nat.le_refl _), HQ2.out.k.size⟩
            clear m1 m2 m3 K3 HQ2
            go_wp2_with fail
            refine (Sqrt_mid w2.heap.size b3 n w3 HQ3.out.2.2.1 HQ3.out.2.1 (by omega)).mono ?_
            rintro e w4 ⟨r4, rfl, v4, q3, u4⟩
            obtain rfl : r4 = rr := by
              have h1 := HSR.out
              rw [HN.out, ← Int.natCast_mul] at h1
              exact root_nat q3 (by omega)
            have HQ4 : Hid (Wq l aa cc w w4 ∧ BigAt w4 w2.heap.size (r4 : Int)) := ⟨wq_upd HQ3.out.1 u4 HQ3.out.2.2.1 HQ3.out.2.2.2, v4⟩
            clear v4 q3 u4 HQ3
            go_wp2_with fail
            refine (Int64_any w2.heap.size (r4 : Int) w4 HQ4.out.2 (by omega)).mono ?_
            rintro e w5 ⟨rfl, q5, hw5⟩
            have HQ5 : Hid (Wq l aa cc w w5) := by show Wq _ _ _ _ _; rw [hw5]; exact HQ4.out.1.below (below_drewN' (Below.refl _ _))
            have t8 : decide (0 < (r4 : Int)) = true := decide_eq_true (by omega)
            clear hw5 HQ4
            go_wp2_with (first | (at_builtin; refine wpList_append_own _ rfl _ _ 25 rfl w.heap.size 30 k0 (.agg #[.int .i64 0, .int .i64 0, .bool false]) 3 24 Try.underlying25 HPt.out.1 HPt.out.2.1 HPt.out.2.2.1 HPt.out.2.2.2 rfl (by decide) (.slice (some ⟨g6, 0, none⟩) (l.length + 1) c6) (l.length + 1) (qcl (l ++ [(x, -(r4 : Int))])) rfl (HR6.out.alloc _) ⟨w6.heap.size, 0, none⟩ 1 1 [.int .i64 x, .int .i64 (r4 : Int), .bool false] rfl rfl (tnewsP (Cl.new [.int .i64 x, .int .i64 (r4 : Int), .bool false] 30 w6)) (by simp [Value.oneCell']) (by simp only [maxLen]; omega) (by omega) (by have := HQ6.out.k.size; simp <;> omega) ?_; intro v' w7 hown' hgrow _; obtain ⟨g7, c7, rfl⟩ := ownsRow_succ hown'; have HQ7 : Hid (Wq (l ++ [(x, -(r4 : Int))] ++ [(x, (r4 : Int))]) (some ⟨g7, 0, none⟩) c7 w w7) := ⟨by rw [List.length_append, List.length_append, qcl_append]; exact hown', (HQ6.out.k.alloc HQ6.out.k.size _).grown hgrow (by have := HQ6.out.k.size; simp <;> omega) (fun k e => (HR6.out.lt k e).1)⟩; clear hown' hgrow) | (at_builtin; refine wpList_append_own _ rfl _ _ 25 rfl w.heap.size 30 k0 (.agg #[.int .i64 0, .int .i64 0, .bool false]) 3 24 Try.underlying25 HPt.out.1 HPt.out.2.1 HPt.out.2.2.1 HPt.out.2.2.2 rfl (by decide) (.slice aa l.length cc) l.length (qcl l) rfl (HQ5.out.row.alloc _) ⟨w5.heap.size, 0, none⟩ 1 1 [.int .i64 x, .int .i64 (-(r4 : Int)), .bool false] rfl rfl (tnewsP (Cl.new [.int .i64 x, .int .i64 (-(r4 : Int)), .bool false] 30 w5)) (by simp [Value.oneCell']) (by simp only [maxLen]; omega) (by omega) (by have := HQ5.out.k.size; simp <;> omega) ?_; intro v' w6 hown' hgrow _; obtain ⟨g6, c6, rfl⟩ := ownsRow_succ hown'; have HQ6 : Hid (Wq (l ++ [(x, (-(r4 : Int)))]) (some ⟨g6, 0, none⟩) c6 w w6) := ⟨by rw [List.length_append, qcl_append]; exact hown', (HQ5.out.k.alloc HQ5.out.k.size _).grown hgrow (by have := HQ5.out.k.size; simp <;> omega) (fun k e => (HQ5.out.row.lt k e).1)⟩; have HR6 : Hid (w6.ownsRow w.heap.size 30 3 (.slice (some ⟨g6, 0, none⟩) (l.length + 1) c6) (l.length + 1) (qcl (l ++ [(x, -(r4 : Int))]))) := (by have h9 := hown'; rw [show qcl l ++ [.int .i64 x, .int .i64 (-(r4 : Int)), .bool false] = qcl (l ++ [(x, -(r4 : Int))]) by rw [qcl_append]; rfl] at h9; exact h9); clear hown' hgrow))
            refine ⟨⟨i + 1, _, c7, by have := HX.out.2; omega, by rw [HNext.out, HO.out, List.length_append]; rfl, by rw [← HX.out.1]; congr 1; omega, ?_⟩, by simp [intOf]; omega⟩
            rw [HNext.out, HO.out, show l ++ [(x, -(r4 : Int)), (x, (r4 : Int))] = (l ++ [(x, -(r4 : Int))]) ++ [(x, (r4 : Int))] by simp]
            exact HQ7.out
          · have t6 : ((d : Int) % s == 0) = false := beq_eq_false_iff_ne.2 c6
            have t7 : ((d : Int).tmod s == 0) = false := beq_eq_false_iff_ne.2 (fun e => c6 (Int.emod_eq_zero_of_dvd (Int.dvd_of_tmod_eq_zero e)))
            have HO : Hid (lkL a b x = []) := lkL_none fun z hz => by
              have h1 := lk_dv hz (by rw [HS.out]; omega)
              rw [HS.out, HD.out] at h1
              apply c6
              have h2 := Int.dvd_of_emod_eq_zero h1
              have h3 : s ∣ (d : Int) := by
                have := Int.dvd_natAbs.2 h2
                rw [Hd.out] at this
                exact this
              exact Int.emod_eq_zero_of_dvd h3
            clear c4 q1 q2 hsr c6
            go_wp2
            refine ⟨⟨i + 1, aa, cc, by have := HX.out.2; omega, by rw [HNext.out, HO.out, List.append_nil], by rw [← HX.out.1]; congr 1; omega, ?_⟩, by simp [intOf]; omega⟩
            rw [HNext.out, HO.out, List.append_nil]
            exact HQ2.out
      · rw [show decide (rr * rr = n) = false from decide_eq_false c4]
        have HO : Hid (lkL a b x = []) := lkL_none fun z hz => no_root (by rw [Nat.pow_two]; exact q1) (by rw [Nat.pow_two]; exact q2) HN.out (fun e => c4 (by have h1 := HN.out; rw [← e, ← Int.natCast_mul] at h1; omega)) (hz.on.trans HS.out)
        clear c4 q1 q2
        go_wp2
        refine ⟨⟨i + 1, aa, cc, by have := HX.out.2; omega, by rw [HNext.out, HO.out, List.append_nil], by rw [← HX.out.1]; congr 1; omega, ?_⟩, by simp [intOf]; omega⟩
        rw [HNext.out, HO.out, List.append_nil]
        exact HQ2.out
    · obtain rfl : i = 3401 := by omega
      have t1 : decide (-1700 + ((3401 : Nat) : Int) ≤ 1700) = false := by decide
      have HE : Hid (∃ (aa' : Option Addr) (cc' : Nat), (.slice aa l.length cc : Value) = .slice aa' (lkA a b (-1700) 3401).length cc' ∧ Wq (lkA a b (-1700) 3401) aa' cc' w wr) := ⟨aa, cc, by rw [HLL.out], by rw [HLL.out]; exact HQ.out⟩
      clear hlt hi HQ
      go_wp2
      go_ret
      obtain ⟨aa', cc', g1, g2⟩ := HE.out
      exact ⟨aa', cc', congrArg Ending.returned g1, g2⟩

end Go.Proofs.Ytknnidbdgfimbaa
