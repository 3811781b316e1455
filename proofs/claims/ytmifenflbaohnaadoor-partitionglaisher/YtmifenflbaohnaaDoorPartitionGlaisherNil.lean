/- The law PartitionGlaisher: a nil slice. Written by mkpnil.py. -/
import Derived.Test.YtmifenflbaohnaaDoorPartitionGlaisherWalk
import Derived.Test.YtmifenflbaohnaaDoorPtG
import Derived.Deep.CutBlock
set_option linter.unusedSimpArgs false
set_option linter.unusedVariables false
set_option maxRecDepth 100000
namespace Go.Proofs.YtmifenflbaohnaaDoor
open Go.RowKit

set_option maxRecDepth 100000 in
set_option maxHeartbeats 4000000 in
theorem partition_glaisher_nil (hGl : GlIs) (w : World) (hBg : ∀ W, Below w.heap.size w W → Calls Tryd.prog 8 #[] W fun e w' => e = .returned (.bool true) ∧ Below W.heap.size W w') :
    Calls Tryd.prog 5 #[.slice none 0 0] w fun e w' => e = .returned (.bool true) ∧ Below w.heap.size w w' := by
  obtain ⟨i0, hi, hz0, hz1, hz2⟩ := info_parts Tryd.infoIntT
  have HI : Hid (Tryd.prog.info? 3 = some i0 ∧ i0.zero = some (.int .i64 0) ∧ i0.size = 1 ∧ i0.bytes = 8) := ⟨hi, hz0, hz1, hz2⟩
  obtain ⟨xs, hxs⟩ : ∃ xs : List Int, xs = [] := ⟨_, rfl⟩
  have HN : Hid (0 = xs.length) := by show _ = _; rw [hxs]; rfl
  have hNl0 : xs.length = 0 := HN.out.symm
  have HRA : Hid (I64 xs) := ⟨by omega, fun x hx => by rw [hxs] at hx; cases hx⟩
  have HBg : Hid (∀ W, Below w.heap.size w W → Calls Tryd.prog 8 #[] W fun e w' => e = .returned (.bool true) ∧ Below W.heap.size W w') := hBg
  have HV : Hid (IS w (.slice none 0 0) xs) := ⟨none, 0, 0, 0, by rw [hNl0], fun h => by omega, fun i hi => by omega, fun h => by omega⟩
  have hGl' : Hid GlIs := hGl
  clear hGl
  clear hBg hz0 hz1 hz2 hxs hNl0
  go_enter Tryd.func5, Tryd.ntmps5
  have H1 : Hid (IS w (.slice none 0 0) xs ∧ IS w (.slice none 0 0) xs ∧ Below w.heap.size w w) := ⟨HV.out, HV.out, Below.refl _ _⟩
  clear HI HV
  obtain ⟨fo, hfo⟩ : ∃ f, PT.odf xs = f := ⟨_, rfl⟩
  obtain ⟨fa, hfa⟩ : ∃ f, PT.apf xs = f := ⟨_, rfl⟩
  obtain ⟨co, ao⟩ := fo
  obtain ⟨ce, ae⟩ := fa
  have HFo : Hid (PT.odf xs = (co, ao)) := hfo
  have HFa : Hid (PT.apf xs = (ce, ae)) := hfa
  obtain ⟨p, hp⟩ : ∃ p, (PT.pf xs).1 = p := ⟨_, rfl⟩
  obtain ⟨q, hq⟩ : ∃ q, (PT.pf xs).2 = q := ⟨_, rfl⟩
  have HPq : Hid (PT.pf xs = (p, q)) := by show _ = _; rw [← hp, ← hq]
  have HOd : Hid (∀ v w, IS w v xs → Calls Tryd.prog 19 #[v] w fun e w' => ∃ v', e = .returned (.tuple #[v', .agg #[.int .i64 co, .int .i64 ao]]) ∧ OutO w'.heap.size xs v' (PT.odf xs).1 w' ∧ Below w.heap.size w w') := fun v w h => by
    have := hGl'.out.odd v xs w h HRA.out
    rw [hfo] at this ⊢
    exact this
  have HAp : Hid (∀ v w, IS w v xs → Calls Tryd.prog 20 #[v] w fun e w' => ∃ v', e = .returned (.tuple #[v', .agg #[.int .i64 ce, .int .i64 ae]]) ∧ OutA w'.heap.size xs v' (PT.apf xs).1 w' ∧ Below w.heap.size w w') := fun v w h => by
    have := hGl'.out.apart v xs w h HRA.out
    rw [hfa] at this ⊢
    exact this
  have HPf : Hid (∀ v w, IS w v xs → Calls Tryd.prog 16 #[v] w fun e w' => e = .returned (.agg #[.int .i64 p, .int .i64 q]) ∧ Below w.heap.size w w') := fun v w h => by rw [← hp, ← hq]; exact refPartitionFault_any v xs w h (by have := HRA.out.1; omega) HRA.out.2
  clear hfo hfa hp hq
  go_wp2_with fail
  refine (HOd.out _ _ H1.out.1).mono ?_
  rintro e w2 ⟨vo, rfl, ho, k2⟩
  have K2 : Hid (IS w2 (.slice none 0 0) xs ∧ IS w2 (.slice none 0 0) xs ∧ Below w.heap.size w w2 ∧ OutO w2.heap.size xs vo (PT.odf xs).1 w2) := ⟨H1.out.1.belowP k2, H1.out.2.1.belowP k2, H1.out.2.2.trans (k2.mono H1.out.2.2.size), ho⟩
  clear k2 H1 ho HOd
  go_wp2_with fail
  obtain ⟨b5, hb5⟩ : ∃ b, w2.heap.size = b := ⟨_, rfl⟩
  obtain ⟨W3, hW3⟩ : ∃ W, W = w2.alloc (.cells #[.int .i64 co, .int .i64 ao] 23) := ⟨_, rfl⟩
  have K3 : Hid (Sv b5 co ao W3 ∧ IS W3 (.slice none 0 0) xs ∧ IS W3 (.slice none 0 0) xs ∧ Below w.heap.size w W3 ∧ OutO W3.heap.size xs vo (PT.odf xs).1 W3) := by
    show _ ∧ _
    have kb := below_one w2 (.cells #[.int .i64 co, .int .i64 ao] 23)
    rw [hW3]
    exact ⟨Sv.fresh co ao hb5, K2.out.1.belowP kb, K2.out.2.1.belowP kb, K2.out.2.2.1.trans (kb.mono K2.out.2.2.1.size), K2.out.2.2.2.imp (fun o h => (h.below kb (Nat.le_refl _)).mono kb.size)⟩
  rw [← hW3, hb5]
  clear hW3 K2 hb5
  refine (HAp.out _ _ K3.out.2.1).mono ?_
  rintro e w4 ⟨va, rfl, ho, k4⟩
  have K4 : Hid (Sv b5 co ao w4 ∧ IS w4 (.slice none 0 0) xs ∧ IS w4 (.slice none 0 0) xs ∧ Below w.heap.size w w4 ∧ OutO w4.heap.size xs vo (PT.odf xs).1 w4 ∧ OutA w4.heap.size xs va (PT.apf xs).1 w4) := by
    obtain ⟨q1, q2, q3, q4, q5⟩ := K3.out
    exact ⟨q1.below k4, q2.belowP k4, q3.belowP k4, q4.trans (k4.mono q4.size), q5.imp (fun o h => (h.below k4 (Nat.le_refl _)).mono k4.size), ho⟩
  clear k4 K3 ho HAp
  go_wp2_with fail
  obtain ⟨b7, hb7⟩ : ∃ b, w4.heap.size = b := ⟨_, rfl⟩
  obtain ⟨W5, hW5⟩ : ∃ W, W = w4.alloc (.cells #[.int .i64 ce, .int .i64 ae] 23) := ⟨_, rfl⟩
  have K5 : Hid (Sv b5 co ao W5 ∧ Sv b7 ce ae W5 ∧ IS W5 (.slice none 0 0) xs ∧ IS W5 (.slice none 0 0) xs ∧ Below w.heap.size w W5 ∧ OutO W5.heap.size xs vo (PT.odf xs).1 W5 ∧ OutA W5.heap.size xs va (PT.apf xs).1 W5) := by
    show _ ∧ _
    have kb := below_one w4 (.cells #[.int .i64 ce, .int .i64 ae] 23)
    rw [hW5]
    obtain ⟨q1, q2, q3, q4, q5, q6⟩ := K4.out
    exact ⟨q1.below kb, Sv.fresh ce ae hb7, q2.belowP kb, q3.belowP kb, q4.trans (kb.mono q4.size), q5.imp (fun o h => (h.below kb (Nat.le_refl _)).mono kb.size), q6.imp (fun o h => (h.below kb (Nat.le_refl _)).mono kb.size)⟩
  rw [← hW5, hb7]
  clear hW5 K4 hb7
  refine (HPf.out _ _ K5.out.2.2.2.1).mono ?_
  rintro e w6 ⟨rfl, k6⟩
  have K6 : Hid (Sv b5 co ao w6 ∧ Sv b7 ce ae w6 ∧ IS w6 (.slice none 0 0) xs ∧ IS w6 (.slice none 0 0) xs ∧ Below w.heap.size w w6 ∧ OutO w6.heap.size xs vo (PT.odf xs).1 w6 ∧ OutA w6.heap.size xs va (PT.apf xs).1 w6) := by
    obtain ⟨q1, q1', q2, q3, q4, q5, q6⟩ := K5.out
    exact ⟨q1.below k6, q1'.below k6, q2.belowP k6, q3.belowP k6, q4.trans (k6.mono q4.size), q5.imp (fun o h => (h.below k6 (Nat.le_refl _)).mono k6.size), q6.imp (fun o h => (h.below k6 (Nat.le_refl _)).mono k6.size)⟩
  clear k6 K5 HPf
  go_wp2
  obtain ⟨b8, hb8⟩ : ∃ b, w6.heap.size = b := ⟨_, rfl⟩
  obtain ⟨b9, hb9⟩ : ∃ b, w6.heap.size + 1 = b := ⟨_, rfl⟩
  obtain ⟨W7, hW7⟩ : ∃ W, W = (w6.alloc (.cells #[.int .i64 p, .int .i64 q] 23)).alloc (.cells #[.int .i64 p, .int .i64 q] 23) := ⟨_, rfl⟩
  have HS7 : Hid (PT.Sf (PT.odf xs) (PT.odP xs) 0 0 p q ∧ PT.Sf (PT.apf xs) (PT.apP xs) 0 0 p q) := by
    have a : PT.Sf (PT.odf xs) (PT.odP xs) xs.length 0 p q := PT.Sf.start HPq.out
    have b : PT.Sf (PT.apf xs) (PT.apP xs) xs.length 0 p q := PT.Sf.start HPq.out
    rw [← HN.out] at a b
    exact ⟨a, b⟩
  have K7 : Hid (Gb w W7 b5 b7 b8 b9 (PT.odf xs) (PT.apf xs) p q p q (.slice none 0 0) (.slice none 0 0) vo va xs) := by
    show Gb _ _ _ _ _ _ _ _ _ _ _ _ _ _ _ _ _
    have kb := (below_one w6 (.cells #[.int .i64 p, .int .i64 q] 23)).trans ((below_one (w6.alloc (.cells #[.int .i64 p, .int .i64 q] 23)) (.cells #[.int .i64 p, .int .i64 q] 23)).mono (by simp))
    rw [hW7]
    obtain ⟨q1, q2, q3, q4, q5, q6, q7⟩ := K6.out
    have l1 := q1.lt
    have l2 := q2.lt
    refine ⟨?_, ?_, (Sv.fresh p q hb8).below (below_one _ _), Sv.fresh p q (by simpa using hb9), by omega, by omega, by omega, ?_, ?_, ?_, ?_, q5.trans (kb.mono q5.size), ?_⟩
    · rw [HFo.out]; exact q1.below kb
    · rw [HFa.out]; exact q2.below kb
    · rw [← hb8]; exact q4.ib.below kb (Nat.le_refl _)
    · rw [← hb8]; exact q3.ib.below kb (Nat.le_refl _)
    · rw [← hb8]; exact q6.imp (fun o h => h.below kb (Nat.le_refl _))
    · rw [← hb8]; exact q7.imp (fun o h => h.below kb (Nat.le_refl _))
    · rw [← hb8]; exact q5.size
  rw [← hW7, hb9, hb8]
  clear hW7 K6 hb8 hb9
  go_loopg [10] (0 + 1) (fun gk iv wx => ∃ (i : Nat) (c a : Int), iv = .int .i64 (i : Int) ∧ Hid (gk = 0 + 1 - i ∧ i ≤ 0 ∧ Gb w wx b5 b7 b8 b9 (PT.odf xs) (PT.apf xs) c a p q (.slice none 0 0) (.slice none 0 0) vo va xs ∧ PT.Sf (PT.odf xs) (PT.odP xs) 0 i c a))
  case atStart => exact ⟨0, p, q, rfl, rfl, by omega, K7.out, HS7.out.1⟩
  case round =>
    clear K7
    obtain ⟨i, c, a, rfl, HR⟩ := hrel
    obtain ⟨h1, h2, h3, h4⟩ := HR.out
    have HKi : Hid (gk = 0 + 1 - i) := h1
    have HG : Hid (Gb w wr b5 b7 b8 b9 (PT.odf xs) (PT.apf xs) c a p q (.slice none 0 0) (.slice none 0 0) vo va xs) := h3
    have HSf : Hid (PT.Sf (PT.odf xs) (PT.odP xs) 0 i c a) := h4
    obtain ⟨u0, u1, u2, u3, u4⟩ := h3.s8
    obtain ⟨B, hB⟩ : ∃ B : Bool, B = decide (i < 0 ∧ c = 0) := ⟨_, rfl⟩
    have HB : Hid (B = decide (i < 0 ∧ c = 0)) := hB
    clear HR h1 h3 h4 hB
    go_upto_region 7 with fail
    go_cut [36] from 28 to 36 (fun bv wx => bv = .bool B ∧ wx = wr)
    case first =>
      by_cases hi : i < 0
      · exact absurd hi (by omega)
      · have ti : decide ((i : Int) < (0 : Int)) = false := decide_eq_false (by omega)
        have tin : decide (i < 0) = false := decide_eq_false hi
        have HBt : Hid (B = false) := by show _ = _; rw [HB.out]; exact decide_eq_false (fun h => hi h.1)
        go_wp2
        go_meet
        exact ⟨by rw [HBt.out], rfl⟩
    case rest =>
      obtain ⟨rfl, hwc⟩ := hcut
      rw [hwc]
      clear hwc u0 u1 u2 u3 u4
      by_cases hB : i < 0 ∧ c = 0
      · exact absurd hB.1 (by omega)
      · obtain rfl : B = false := by rw [HB.out]; exact decide_eq_false hB
        have hfin := HSf.out.fin hB h2
        rw [HFo.out] at hfin
        injection hfin with e1 e2
        have K8 : Hid (Gb w wr b5 b7 b8 b9 (PT.odf xs) (PT.apf xs) co ao p q (.slice none 0 0) (.slice none 0 0) vo va xs) := by rw [e1, e2]; exact HG.out
        clear e1 e2 hB HG HSf
        go_wp2
        go_loopg [11] (0 + 1) (fun gk iv wx => ∃ (i : Nat) (c a : Int), iv = .int .i64 (i : Int) ∧ Hid (gk = 0 + 1 - i ∧ i ≤ 0 ∧ Gb w wx b5 b7 b8 b9 (PT.odf xs) (PT.apf xs) co ao c a (.slice none 0 0) (.slice none 0 0) vo va xs ∧ PT.Sf (PT.apf xs) (PT.apP xs) 0 i c a))
        case atStart => exact ⟨0, p, q, rfl, rfl, by omega, K8.out, HS7.out.2⟩
        case round =>
          clear K8
          obtain ⟨i, c, a, rfl, HR⟩ := hrel
          obtain ⟨h1, h2, h3, h4⟩ := HR.out
          have HKi : Hid (gk = 0 + 1 - i) := h1
          have HG : Hid (Gb w wr b5 b7 b8 b9 (PT.odf xs) (PT.apf xs) co ao c a (.slice none 0 0) (.slice none 0 0) vo va xs) := h3
          have HSf : Hid (PT.Sf (PT.apf xs) (PT.apP xs) 0 i c a) := h4
          obtain ⟨u0, u1, u2, u3, u4⟩ := h3.s9
          obtain ⟨B, hB⟩ : ∃ B : Bool, B = decide (i < 0 ∧ c = 0) := ⟨_, rfl⟩
          have HB : Hid (B = decide (i < 0 ∧ c = 0)) := hB
          clear HR h1 h3 h4 hB
          go_upto_region 12 with fail
          go_cut [63] from 55 to 63 (fun bv wx => bv = .bool B ∧ wx = wr)
          case first =>
            by_cases hi : i < 0
            · exact absurd hi (by omega)
            · have ti : decide ((i : Int) < (0 : Int)) = false := decide_eq_false (by omega)
              have tin : decide (i < 0) = false := decide_eq_false hi
              have HBt : Hid (B = false) := by show _ = _; rw [HB.out]; exact decide_eq_false (fun h => hi h.1)
              go_wp2
              go_meet
              exact ⟨by rw [HBt.out], rfl⟩
          case rest =>
            obtain ⟨rfl, hwc⟩ := hcut
            rw [hwc]
            clear hwc u0 u1 u2 u3 u4
            by_cases hB : i < 0 ∧ c = 0
            · exact absurd hB.1 (by omega)
            · obtain rfl : B = false := by rw [HB.out]; exact decide_eq_false hB
              have hfin := HSf.out.fin hB h2
              rw [HFa.out] at hfin
              injection hfin with e1 e2
              have K9 : Hid (Gb w wr b5 b7 b8 b9 (PT.odf xs) (PT.apf xs) co ao ce ae (.slice none 0 0) (.slice none 0 0) vo va xs) := by rw [e1, e2]; exact HG.out
              clear e1 e2 hB HG HSf
              go_wp2_with fail
              refine (HBg.out _ K9.out.k).mono ?_
              rintro e wb ⟨rfl, kb⟩
              have K10 : Hid (Gb w wb b5 b7 b8 b9 (PT.odf xs) (PT.apf xs) co ao ce ae (.slice none 0 0) (.slice none 0 0) vo va xs) := K9.out.below kb
              clear kb K9 HBg
              have HIn : Hid (∀ s t w, IS w s xs → IS w t xs → Calls Tryd.prog 17 #[s, t] w fun e w' => e = .returned (.bool true) ∧ Below w.heap.size w w') := fun s t w h1 h2 => ints_yes s t xs w h1 h2 (by have := HRA.out.1; omega)
              have HV0 : Hid ((co = 0 ∨ ce = 0) → PT.Vp xs) := fun h => by
                have : (PT.pf xs).1 = 0 := by
                  rcases Classical.em ((PT.pf xs).1 = 0) with h0 | h0
                  · exact h0
                  · have a := HFo.out
                    have b := HFa.out
                    unfold PT.odf at a
                    unfold PT.apf at b
                    rw [if_neg h0] at a b
                    rw [a] at h0
                    rw [a] at b
                    injection b with b1 b2
                    rcases h with h | h
                    · exact absurd h h0
                    · exact absurd (by rw [← h, ← b1]) h0
                exact PT.pf_vp (PT.pf_zero this)
              have s5 := K10.out.s5
              rw [HFo.out] at s5
              have s7 := K10.out.s7
              rw [HFa.out] at s7
              obtain ⟨f0, f1, f2, f3, f4⟩ := s5
              obtain ⟨g0, g1, g2, g3, g4⟩ := s7
              obtain ⟨u0, u1, u2, u3, u4⟩ := K10.out.s8
              obtain ⟨y0, y1, y2, y3, y4⟩ := K10.out.s9
              by_cases hco : co = 0
              · by_cases hce : ce = 0
                · have tco : (co != 0) = false := by rw [hco]; rfl
                  have tcq : (co == 0) = true := beq_iff_eq.2 hco
                  have tce : (ce != 0) = false := by rw [hce]; rfl
                  have HOo : Hid (∃ ol, Ib b8 wb vo ol ∧ ol.length ≤ 10000 ∧ PT.Gl xs ol) := by
                    rcases K10.out.oo with ⟨h, _⟩ | ⟨_, h⟩
                    · rw [HFo.out] at h; exact absurd hco h
                    · exact h
                  have HOa0 : Hid (∃ al, Ib b8 wb va al ∧ al.length ≤ 10000 ∧ PT.Gl al xs ∧ Sd al) := by
                    rcases K10.out.oa with ⟨h, _⟩ | ⟨_, h⟩
                    · rw [HFa.out] at h; exact absurd hce h
                    · exact h
                  have HVp : Hid (PT.Vp xs) := HV0.out (by first | exact .inl hco | exact .inr hce)
                  have h8b := K10.out.s8.lt
                  clear hco hce
                  go_wp2_with fail
                  refine (HIn.out _ _ _ (K10.out.o.is (by omega)) (K10.out.v.is (by omega))).mono ?_
                  rintro e wc ⟨rfl, kc⟩
                  have K11 : Hid (Gb w wc b5 b7 b8 b9 (PT.odf xs) (PT.apf xs) co ao ce ae (.slice none 0 0) (.slice none 0 0) vo va xs) := K10.out.below kc
                  have HOo1 : Hid (∃ ol, Ib b8 wc vo ol ∧ ol.length ≤ 10000 ∧ PT.Gl xs ol) := by
                    obtain ⟨ol, q1, q2⟩ := HOo.out
                    exact ⟨ol, q1.below kc (by omega), q2⟩
                  have HOa1 : Hid (∃ al, Ib b8 wc va al ∧ al.length ≤ 10000 ∧ PT.Gl al xs ∧ Sd al) := by
                    obtain ⟨al, q1, q2⟩ := HOa0.out
                    exact ⟨al, q1.below kc (by omega), q2⟩
                  clear f0 f1 f2 f3 f4 g0 g1 g2 g3 g4 u0 u1 u2 u3 u4 y0 y1 y2 y3 y4
                  have s5 := K11.out.s5
                  rw [HFo.out] at s5
                  have s7 := K11.out.s7
                  rw [HFa.out] at s7
                  obtain ⟨f0, f1, f2, f3, f4⟩ := s5
                  obtain ⟨g0, g1, g2, g3, g4⟩ := s7
                  obtain ⟨u0, u1, u2, u3, u4⟩ := K11.out.s8
                  obtain ⟨y0, y1, y2, y3, y4⟩ := K11.out.s9
                  clear kc K10 HIn h8b
                  go_wp2_with fail
                  obtain ⟨ol, q1, q2, q3⟩ := HOo1.out
                  have h8c := K11.out.s8.lt
                  refine (glaisher_yes _ _ xs ol wc (K11.out.v.is (by omega)) (q1.is (by omega)) (by have := HVp.out.len; omega) q2 q3).mono ?_
                  rintro e wd ⟨rfl, kd⟩
                  have K12 : Hid (Gb w wd b5 b7 b8 b9 (PT.odf xs) (PT.apf xs) co ao ce ae (.slice none 0 0) (.slice none 0 0) vo va xs) := K11.out.below kd
                  have HOa2 : Hid (∃ al, Ib b8 wd va al ∧ al.length ≤ 10000 ∧ PT.Gl al xs ∧ Sd al) := by
                    obtain ⟨al, r1, r2⟩ := HOa1.out
                    exact ⟨al, r1.below kd (by omega), r2⟩
                  clear f0 f1 f2 f3 f4 g0 g1 g2 g3 g4 u0 u1 u2 u3 u4 y0 y1 y2 y3 y4
                  have s5 := K12.out.s5
                  rw [HFo.out] at s5
                  have s7 := K12.out.s7
                  rw [HFa.out] at s7
                  obtain ⟨f0, f1, f2, f3, f4⟩ := s5
                  obtain ⟨g0, g1, g2, g3, g4⟩ := s7
                  obtain ⟨u0, u1, u2, u3, u4⟩ := K12.out.s8
                  obtain ⟨y0, y1, y2, y3, y4⟩ := K12.out.s9
                  clear kd q1 q2 q3 h8c HOo HOo1
                  have HOa := HOa2
                  obtain ⟨av, hIa, hal, hGa, hSd⟩ := HOa.out
                  obtain ⟨aA, gA, oA, cA, rfl, hAa, hAc, hAl⟩ := hIa.shape
                  obtain ⟨M, hM⟩ : ∃ M, M = av.length := ⟨_, rfl⟩
                  have HM : Hid (M = av.length) := hM
                  have hMb : M ≤ 10000 := by omega
                  have HGa : Hid (PT.Gl av xs ∧ Sd av) := ⟨hGa, hSd⟩
                  have HIa : Hid (Ib b8 wd (.slice aA M cA) av) := by show Ib _ _ _ _; rw [hM]; exact hIa
                  have HAc : Hid ((0 < M → aA = some ⟨gA, oA, none⟩) ∧ ∀ W, Below wd.heap.size wd W → ∀ j, j < av.length → W.cell? ⟨gA, oA + j, none⟩ = some (.int .i64 (av.getD j 0))) := ⟨fun h => hAa (by omega), fun W k j hj => (k.cell (p := ⟨gA, oA + j, none⟩) (by show gA < wd.heap.size; have := hAl (by omega); have := K12.out.s8.lt; omega)).trans (hAc j hj)⟩
                  rw [← hM]
                  clear hIa hal hGa hSd hAa hAc hAl hM HOa
                  go_wp2
                  go_loopg [12] M (fun gk iv wx => ∃ i : Nat, iv = .int .i64 (i : Int) ∧ Hid (gk = M - i ∧ i ≤ M ∧ Below wd.heap.size wd wx))
                  case atStart => exact ⟨0, rfl, rfl, by omega, Below.refl _ _⟩
                  case round =>
                    obtain ⟨i, rfl, HR⟩ := hrel
                    obtain ⟨h1, h2, h3⟩ := HR.out
                    have HKi : Hid (gk = M - i) := h1
                    have HW : Hid (Below wd.heap.size wd wr) := h3
                    clear HR h1 h3
                    by_cases hi : i < M
                    · have ti : decide ((i : Int) < (M : Int)) = true := decide_eq_true (by omega)
                      have hil : i < av.length := by have := HM.out; omega
                      obtain rfl := HAc.out.1 (by omega)
                      have c0 := HAc.out.2 _ HW.out i hil
                      obtain ⟨b1, b2⟩ := HGa.out.1.lb i hil
                      obtain ⟨x, hx⟩ : ∃ x, av.getD i 0 = x := ⟨_, rfl⟩
                      have HX : Hid (av.getD i 0 = x) := hx
                      rw [hx] at c0 b1 b2
                      have x1 : (i : Int) < (M : Int) := by omega
                      have t1 : decide (x < 1) = false := decide_eq_false (by omega)
                      have t2 : decide (2000 < x) = false := decide_eq_false (by omega)
                      clear hx
                      by_cases h0 : i = 0
                      · have t0 : decide (0 < (i : Int)) = false := decide_eq_false (by omega)
                        have t0n : decide (0 < i) = false := decide_eq_false (by omega)
                        clear h0
                        go_wp2_with fail
                        go_quiet (fail)
                        go_wp2
                        go_roundg (M - (i + 1))
                        case rel => exact ⟨i + 1, by go_num, rfl, by omega, below_drewN' HW.out⟩
                        case measure => have := HKi.out; omega
                      · obtain ⟨r, hr⟩ : ∃ r, i = r + 1 := ⟨i - 1, by omega⟩
                        have t0 : decide (0 < (i : Int)) = true := decide_eq_true (by omega)
                        have t0n : decide (0 < i) = true := decide_eq_true (by omega)
                        have hrl : r < av.length := by omega
                        have c1 := HAc.out.2 _ HW.out r hrl
                        have hip : (i : Int) - 1 = (r : Int) := by omega
                        obtain ⟨y, hy⟩ : ∃ y, av.getD r 0 = y := ⟨_, rfl⟩
                        have hxy : x < y := by
                          have := HGa.out.2 r (by omega)
                          rw [← hr, HX.out, hy] at this
                          exact this
                        rw [hy] at c1
                        have t4 : decide (y ≤ x) = false := decide_eq_false (by omega)
                        have x2 : (r : Int) < (M : Int) := by omega
                        have hwp : IntKind.i64.wrap (r : Int) = (r : Int) := by rw [IntKind.wrap_i64]; omega
                        have hp0 : (0 : Int) ≤ (r : Int) := by omega
                        clear hy hr h0 hxy
                        go_wp2_with fail
                        go_quiet (fail)
                        go_wp2
                        go_roundg (M - (i + 1))
                        case rel => exact ⟨i + 1, by go_num, rfl, by omega, below_drewN' HW.out⟩
                        case measure => have := HKi.out; omega
                    · have ti : decide ((i : Int) < (M : Int)) = false := decide_eq_false (by omega)
                      go_wp2_with fail
                      have hge : b8 ≤ wr.heap.size := Nat.le_trans (Nat.le_of_lt K12.out.s8.lt) HW.out.size
                      refine (glaisher_yes _ _ av xs wr ((HIa.out.below HW.out (Nat.le_of_lt K12.out.s8.lt)).is hge) ((K12.out.v.below HW.out (Nat.le_of_lt K12.out.s8.lt)).is hge) (by have := HM.out; omega) (by have := HVp.out.len; omega) HGa.out.1).mono ?_
                      rintro e wz ⟨rfl, kz⟩
                      have KZ : Hid (Below w.heap.size w wz) := (K12.out.below HW.out).k.trans (kz.mono (K12.out.below HW.out).k.size)
                      clear kz
                      go_wp2
                      go_ret
                      exact ⟨rfl, KZ.out⟩
                · have tco : (co != 0) = false := by rw [hco]; rfl
                  have tcq : (co == 0) = true := beq_iff_eq.2 hco
                  have tce : (ce != 0) = true := bne_iff_ne.2 hce
                  have HOo : Hid (∃ ol, Ib b8 wb vo ol ∧ ol.length ≤ 10000 ∧ PT.Gl xs ol) := by
                    rcases K10.out.oo with ⟨h, _⟩ | ⟨_, h⟩
                    · rw [HFo.out] at h; exact absurd hco h
                    · exact h
                  have hva : va = .slice none 0 0 := by
                    rcases K10.out.oa with ⟨_, h⟩ | ⟨h, _⟩
                    · exact h
                    · rw [HFa.out] at h; exact absurd h hce
                  subst hva
                  have HVp : Hid (PT.Vp xs) := HV0.out (by first | exact .inl hco | exact .inr hce)
                  have h8b := K10.out.s8.lt
                  clear hco hce
                  go_wp2_with fail
                  refine (HIn.out _ _ _ (K10.out.o.is (by omega)) (K10.out.v.is (by omega))).mono ?_
                  rintro e wc ⟨rfl, kc⟩
                  have K11 : Hid (Gb w wc b5 b7 b8 b9 (PT.odf xs) (PT.apf xs) co ao ce ae (.slice none 0 0) (.slice none 0 0) vo (.slice none 0 0) xs) := K10.out.below kc
                  have HOo1 : Hid (∃ ol, Ib b8 wc vo ol ∧ ol.length ≤ 10000 ∧ PT.Gl xs ol) := by
                    obtain ⟨ol, q1, q2⟩ := HOo.out
                    exact ⟨ol, q1.below kc (by omega), q2⟩
                  clear f0 f1 f2 f3 f4 g0 g1 g2 g3 g4 u0 u1 u2 u3 u4 y0 y1 y2 y3 y4
                  have s5 := K11.out.s5
                  rw [HFo.out] at s5
                  have s7 := K11.out.s7
                  rw [HFa.out] at s7
                  obtain ⟨f0, f1, f2, f3, f4⟩ := s5
                  obtain ⟨g0, g1, g2, g3, g4⟩ := s7
                  obtain ⟨u0, u1, u2, u3, u4⟩ := K11.out.s8
                  obtain ⟨y0, y1, y2, y3, y4⟩ := K11.out.s9
                  clear kc K10 HIn h8b
                  go_wp2_with fail
                  obtain ⟨ol, q1, q2, q3⟩ := HOo1.out
                  have h8c := K11.out.s8.lt
                  refine (glaisher_yes _ _ xs ol wc (K11.out.v.is (by omega)) (q1.is (by omega)) (by have := HVp.out.len; omega) q2 q3).mono ?_
                  rintro e wd ⟨rfl, kd⟩
                  have K12 : Hid (Gb w wd b5 b7 b8 b9 (PT.odf xs) (PT.apf xs) co ao ce ae (.slice none 0 0) (.slice none 0 0) vo (.slice none 0 0) xs) := K11.out.below kd
                  clear f0 f1 f2 f3 f4 g0 g1 g2 g3 g4 u0 u1 u2 u3 u4 y0 y1 y2 y3 y4
                  have s5 := K12.out.s5
                  rw [HFo.out] at s5
                  have s7 := K12.out.s7
                  rw [HFa.out] at s7
                  obtain ⟨f0, f1, f2, f3, f4⟩ := s5
                  obtain ⟨g0, g1, g2, g3, g4⟩ := s7
                  obtain ⟨u0, u1, u2, u3, u4⟩ := K12.out.s8
                  obtain ⟨y0, y1, y2, y3, y4⟩ := K12.out.s9
                  clear kd q1 q2 q3 h8c HOo HOo1
                  go_wp2
                  go_ret
                  exact ⟨rfl, K12.out.k⟩
              · by_cases hce : ce = 0
                · have tco : (co != 0) = true := bne_iff_ne.2 hco
                  have tcq : (co == 0) = false := beq_eq_false_iff_ne.2 hco
                  have tce : (ce != 0) = false := by rw [hce]; rfl
                  have hvo : vo = .slice none 0 0 := by
                    rcases K10.out.oo with ⟨_, h⟩ | ⟨h, _⟩
                    · exact h
                    · rw [HFo.out] at h; exact absurd h hco
                  subst hvo
                  have HOa0 : Hid (∃ al, Ib b8 wb va al ∧ al.length ≤ 10000 ∧ PT.Gl al xs ∧ Sd al) := by
                    rcases K10.out.oa with ⟨h, _⟩ | ⟨_, h⟩
                    · rw [HFa.out] at h; exact absurd hce h
                    · exact h
                  have HVp : Hid (PT.Vp xs) := HV0.out (by first | exact .inl hco | exact .inr hce)
                  have h8b := K10.out.s8.lt
                  clear hco hce
                  go_wp2_with fail
                  refine (HIn.out _ _ _ (K10.out.o.is (by omega)) (K10.out.v.is (by omega))).mono ?_
                  rintro e wc ⟨rfl, kc⟩
                  have K11 : Hid (Gb w wc b5 b7 b8 b9 (PT.odf xs) (PT.apf xs) co ao ce ae (.slice none 0 0) (.slice none 0 0) (.slice none 0 0) va xs) := K10.out.below kc
                  have HOa1 : Hid (∃ al, Ib b8 wc va al ∧ al.length ≤ 10000 ∧ PT.Gl al xs ∧ Sd al) := by
                    obtain ⟨al, q1, q2⟩ := HOa0.out
                    exact ⟨al, q1.below kc (by omega), q2⟩
                  clear f0 f1 f2 f3 f4 g0 g1 g2 g3 g4 u0 u1 u2 u3 u4 y0 y1 y2 y3 y4
                  have s5 := K11.out.s5
                  rw [HFo.out] at s5
                  have s7 := K11.out.s7
                  rw [HFa.out] at s7
                  obtain ⟨f0, f1, f2, f3, f4⟩ := s5
                  obtain ⟨g0, g1, g2, g3, g4⟩ := s7
                  obtain ⟨u0, u1, u2, u3, u4⟩ := K11.out.s8
                  obtain ⟨y0, y1, y2, y3, y4⟩ := K11.out.s9
                  clear kc K10 HIn h8b
                  have HOa := HOa1
                  obtain ⟨av, hIa, hal, hGa, hSd⟩ := HOa.out
                  obtain ⟨aA, gA, oA, cA, rfl, hAa, hAc, hAl⟩ := hIa.shape
                  obtain ⟨M, hM⟩ : ∃ M, M = av.length := ⟨_, rfl⟩
                  have HM : Hid (M = av.length) := hM
                  have hMb : M ≤ 10000 := by omega
                  have HGa : Hid (PT.Gl av xs ∧ Sd av) := ⟨hGa, hSd⟩
                  have HIa : Hid (Ib b8 wc (.slice aA M cA) av) := by show Ib _ _ _ _; rw [hM]; exact hIa
                  have HAc : Hid ((0 < M → aA = some ⟨gA, oA, none⟩) ∧ ∀ W, Below wc.heap.size wc W → ∀ j, j < av.length → W.cell? ⟨gA, oA + j, none⟩ = some (.int .i64 (av.getD j 0))) := ⟨fun h => hAa (by omega), fun W k j hj => (k.cell (p := ⟨gA, oA + j, none⟩) (by show gA < wc.heap.size; have := hAl (by omega); have := K11.out.s8.lt; omega)).trans (hAc j hj)⟩
                  rw [← hM]
                  clear hIa hal hGa hSd hAa hAc hAl hM HOa
                  go_wp2
                  go_loopg [12] M (fun gk iv wx => ∃ i : Nat, iv = .int .i64 (i : Int) ∧ Hid (gk = M - i ∧ i ≤ M ∧ Below wc.heap.size wc wx))
                  case atStart => exact ⟨0, rfl, rfl, by omega, Below.refl _ _⟩
                  case round =>
                    obtain ⟨i, rfl, HR⟩ := hrel
                    obtain ⟨h1, h2, h3⟩ := HR.out
                    have HKi : Hid (gk = M - i) := h1
                    have HW : Hid (Below wc.heap.size wc wr) := h3
                    clear HR h1 h3
                    by_cases hi : i < M
                    · have ti : decide ((i : Int) < (M : Int)) = true := decide_eq_true (by omega)
                      have hil : i < av.length := by have := HM.out; omega
                      obtain rfl := HAc.out.1 (by omega)
                      have c0 := HAc.out.2 _ HW.out i hil
                      obtain ⟨b1, b2⟩ := HGa.out.1.lb i hil
                      obtain ⟨x, hx⟩ : ∃ x, av.getD i 0 = x := ⟨_, rfl⟩
                      have HX : Hid (av.getD i 0 = x) := hx
                      rw [hx] at c0 b1 b2
                      have x1 : (i : Int) < (M : Int) := by omega
                      have t1 : decide (x < 1) = false := decide_eq_false (by omega)
                      have t2 : decide (2000 < x) = false := decide_eq_false (by omega)
                      clear hx
                      by_cases h0 : i = 0
                      · have t0 : decide (0 < (i : Int)) = false := decide_eq_false (by omega)
                        have t0n : decide (0 < i) = false := decide_eq_false (by omega)
                        clear h0
                        go_wp2_with fail
                        go_quiet (fail)
                        go_wp2
                        go_roundg (M - (i + 1))
                        case rel => exact ⟨i + 1, by go_num, rfl, by omega, below_drewN' HW.out⟩
                        case measure => have := HKi.out; omega
                      · obtain ⟨r, hr⟩ : ∃ r, i = r + 1 := ⟨i - 1, by omega⟩
                        have t0 : decide (0 < (i : Int)) = true := decide_eq_true (by omega)
                        have t0n : decide (0 < i) = true := decide_eq_true (by omega)
                        have hrl : r < av.length := by omega
                        have c1 := HAc.out.2 _ HW.out r hrl
                        have hip : (i : Int) - 1 = (r : Int) := by omega
                        obtain ⟨y, hy⟩ : ∃ y, av.getD r 0 = y := ⟨_, rfl⟩
                        have hxy : x < y := by
                          have := HGa.out.2 r (by omega)
                          rw [← hr, HX.out, hy] at this
                          exact this
                        rw [hy] at c1
                        have t4 : decide (y ≤ x) = false := decide_eq_false (by omega)
                        have x2 : (r : Int) < (M : Int) := by omega
                        have hwp : IntKind.i64.wrap (r : Int) = (r : Int) := by rw [IntKind.wrap_i64]; omega
                        have hp0 : (0 : Int) ≤ (r : Int) := by omega
                        clear hy hr h0 hxy
                        go_wp2_with fail
                        go_quiet (fail)
                        go_wp2
                        go_roundg (M - (i + 1))
                        case rel => exact ⟨i + 1, by go_num, rfl, by omega, below_drewN' HW.out⟩
                        case measure => have := HKi.out; omega
                    · have ti : decide ((i : Int) < (M : Int)) = false := decide_eq_false (by omega)
                      go_wp2_with fail
                      have hge : b8 ≤ wr.heap.size := Nat.le_trans (Nat.le_of_lt K11.out.s8.lt) HW.out.size
                      refine (glaisher_yes _ _ av xs wr ((HIa.out.below HW.out (Nat.le_of_lt K11.out.s8.lt)).is hge) ((K11.out.v.below HW.out (Nat.le_of_lt K11.out.s8.lt)).is hge) (by have := HM.out; omega) (by have := HVp.out.len; omega) HGa.out.1).mono ?_
                      rintro e wz ⟨rfl, kz⟩
                      have KZ : Hid (Below w.heap.size w wz) := (K11.out.below HW.out).k.trans (kz.mono (K11.out.below HW.out).k.size)
                      clear kz
                      go_wp2
                      go_ret
                      exact ⟨rfl, KZ.out⟩
                · have tco : (co != 0) = true := bne_iff_ne.2 hco
                  have tcq : (co == 0) = false := beq_eq_false_iff_ne.2 hco
                  have tce : (ce != 0) = true := bne_iff_ne.2 hce
                  have hvo : vo = .slice none 0 0 := by
                    rcases K10.out.oo with ⟨_, h⟩ | ⟨h, _⟩
                    · exact h
                    · rw [HFo.out] at h; exact absurd h hco
                  subst hvo
                  have hva : va = .slice none 0 0 := by
                    rcases K10.out.oa with ⟨_, h⟩ | ⟨h, _⟩
                    · exact h
                    · rw [HFa.out] at h; exact absurd h hce
                  subst hva
                  have h8b := K10.out.s8.lt
                  clear hco hce
                  go_wp2_with fail
                  refine (HIn.out _ _ _ (K10.out.o.is (by omega)) (K10.out.v.is (by omega))).mono ?_
                  rintro e wc ⟨rfl, kc⟩
                  have K11 : Hid (Gb w wc b5 b7 b8 b9 (PT.odf xs) (PT.apf xs) co ao ce ae (.slice none 0 0) (.slice none 0 0) (.slice none 0 0) (.slice none 0 0) xs) := K10.out.below kc
                  clear f0 f1 f2 f3 f4 g0 g1 g2 g3 g4 u0 u1 u2 u3 u4 y0 y1 y2 y3 y4
                  have s5 := K11.out.s5
                  rw [HFo.out] at s5
                  have s7 := K11.out.s7
                  rw [HFa.out] at s7
                  obtain ⟨f0, f1, f2, f3, f4⟩ := s5
                  obtain ⟨g0, g1, g2, g3, g4⟩ := s7
                  obtain ⟨u0, u1, u2, u3, u4⟩ := K11.out.s8
                  obtain ⟨y0, y1, y2, y3, y4⟩ := K11.out.s9
                  clear kc K10 HIn h8b
                  go_wp2
                  go_ret
                  exact ⟨rfl, K11.out.k⟩

end Go.Proofs.YtmifenflbaohnaaDoor
