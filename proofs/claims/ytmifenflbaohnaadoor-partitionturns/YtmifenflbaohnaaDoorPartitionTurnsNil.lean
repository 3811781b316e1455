/- The law PartitionTurns: a nil slice. Written by mkpnil.py. -/
import Derived.Test.YtmifenflbaohnaaDoorPartitionTurnsWalk
import Derived.Test.YtmifenflbaohnaaDoorPtF
import Derived.Test.YtmifenflbaohnaaDoorRegionG
set_option linter.unusedSimpArgs false
set_option linter.unusedVariables false
set_option maxRecDepth 100000
namespace Go.Proofs.YtmifenflbaohnaaDoor
open Go.RowKit

set_option maxRecDepth 100000 in
set_option maxHeartbeats 4000000 in
theorem partition_turns_nil (hTu : TurnsIs) (w : World) (hBg : ∀ W, Below w.heap.size w W → Calls Tryd.prog 8 #[] W fun e w' => e = .returned (.bool true) ∧ Below W.heap.size W w') :
    Calls Tryd.prog 4 #[.slice none 0 0] w fun e w' => e = .returned (.bool true) ∧ Below w.heap.size w w' := by
  obtain ⟨i0, hi, hz0, hz1, hz2⟩ := info_parts Tryd.infoIntT
  have HI : Hid (Tryd.prog.info? 3 = some i0 ∧ i0.zero = some (.int .i64 0) ∧ i0.size = 1 ∧ i0.bytes = 8) := ⟨hi, hz0, hz1, hz2⟩
  obtain ⟨xs, hxs⟩ : ∃ xs : List Int, xs = [] := ⟨_, rfl⟩
  have HN : Hid (0 = xs.length) := by show _ = _; rw [hxs]; rfl
  have hNl0 : xs.length = 0 := HN.out.symm
  have HRA : Hid (I64 xs) := ⟨by omega, fun x hx => by rw [hxs] at hx; cases hx⟩
  have HBg : Hid (∀ W, Below w.heap.size w W → Calls Tryd.prog 8 #[] W fun e w' => e = .returned (.bool true) ∧ Below W.heap.size W w') := hBg
  have HV : Hid (IS w (.slice none 0 0) xs) := ⟨none, 0, 0, 0, by rw [hNl0], fun h => by omega, fun i hi => by omega, fun h => by omega⟩
  have hTu' : Hid TurnsIs := hTu
  clear hTu
  clear hBg hz0 hz1 hz2 hxs hNl0
  go_enter Tryd.func4, Tryd.ntmps4
  have H1 : Hid (IS w (.slice none 0 0) xs ∧ IS w (.slice none 0 0) xs ∧ Below w.heap.size w w) := ⟨HV.out, HV.out, Below.refl _ _⟩
  clear HI HV
  obtain ⟨p, hp⟩ : ∃ p, (PT.pf xs).1 = p := ⟨_, rfl⟩
  obtain ⟨q, hq⟩ : ∃ q, (PT.pf xs).2 = q := ⟨_, rfl⟩
  have HPq : Hid (PT.pf xs = (p, q)) := by show _ = _; rw [← hp, ← hq]
  have HCk : Hid (∀ v w, IS w v xs → Calls Tryd.prog 14 #[v] w fun e w' => e = .returned (.agg #[.int .i64 p, .int .i64 q]) ∧ Below w.heap.size w w') := fun v w h => by rw [← hp, ← hq]; exact hTu'.out.check v xs w h HRA.out
  have HPf : Hid (∀ v w, IS w v xs → Calls Tryd.prog 16 #[v] w fun e w' => e = .returned (.agg #[.int .i64 p, .int .i64 q]) ∧ Below w.heap.size w w') := fun v w h => by rw [← hp, ← hq]; exact refPartitionFault_any v xs w h (by have := HRA.out.1; omega) HRA.out.2
  have HTn : Hid (∀ v w, IS w v xs → Calls Tryd.prog 15 #[v] w fun e w' => ∃ v', e = .returned (.tuple #[v', .agg #[.int .i64 p, .int .i64 q]]) ∧ ((p ≠ 0 ∧ v' = .slice none 0 0) ∨ (p = 0 ∧ PT.Vp xs ∧ IS w' v' (PT.trn xs))) ∧ Below w.heap.size w w') := fun v w h => by
    by_cases h0 : (PT.pf xs).1 = 0
    · have hz := PT.pf_zero h0
      refine (hTu'.out.ok v xs w h (PT.pf_vp hz)).mono ?_
      rintro e w' ⟨v', rfl, h1, h2⟩
      have e1 : p = 0 := by rw [← hp, hz]
      have e2 : q = 0 := by rw [← hq, hz]
      exact ⟨v', by rw [e1, e2], .inr ⟨e1, PT.pf_vp hz, h1⟩, h2⟩
    · refine (hTu'.out.bad v xs w h HRA.out h0).mono ?_
      rintro e w' ⟨rfl, h2⟩
      exact ⟨_, by rw [← hp, ← hq], .inl ⟨by rw [← hp]; exact h0, rfl⟩, h2⟩
  clear hp hq
  go_wp2_with fail
  refine (HCk.out _ _ H1.out.1).mono ?_
  rintro e w2 ⟨rfl, k2⟩
  have K2 : Hid (IS w2 (.slice none 0 0) xs ∧ IS w2 (.slice none 0 0) xs ∧ Below w.heap.size w w2) := ⟨H1.out.1.belowP k2, H1.out.2.1.belowP k2, H1.out.2.2.trans (k2.mono H1.out.2.2.size)⟩
  clear k2 H1
  go_wp2_with fail
  obtain ⟨b4, hb4⟩ : ∃ b, w2.heap.size = b := ⟨_, rfl⟩
  obtain ⟨W3, hW3⟩ : ∃ W, W = w2.alloc (.cells #[.int .i64 p, .int .i64 q] 23) := ⟨_, rfl⟩
  have K3 : Hid (Sv b4 p q W3 ∧ IS W3 (.slice none 0 0) xs ∧ IS W3 (.slice none 0 0) xs ∧ Below w.heap.size w W3) := by
    show _ ∧ _
    have kb := below_one w2 (.cells #[.int .i64 p, .int .i64 q] 23)
    rw [hW3]
    exact ⟨Sv.fresh p q hb4, K2.out.1.belowP kb, K2.out.2.1.belowP kb, K2.out.2.2.trans (kb.mono K2.out.2.2.size)⟩
  rw [← hW3, hb4]
  clear hW3 K2 hb4
  refine (HTn.out _ _ K3.out.2.1).mono ?_
  rintro e w4 ⟨vt, rfl, hvt, k4⟩
  have K4 : Hid (Sv b4 p q w4 ∧ IS w4 (.slice none 0 0) xs ∧ IS w4 (.slice none 0 0) xs ∧ Below w.heap.size w w4 ∧ ((p ≠ 0 ∧ vt = .slice none 0 0) ∨ (p = 0 ∧ PT.Vp xs ∧ IS w4 vt (PT.trn xs)))) := ⟨K3.out.1.below k4, K3.out.2.1.belowP k4, K3.out.2.2.1.belowP k4, K3.out.2.2.2.trans (k4.mono K3.out.2.2.2.size), hvt⟩
  clear k4 K3 hvt HCk
  go_wp2_with fail
  obtain ⟨b6, hb6⟩ : ∃ b, w4.heap.size = b := ⟨_, rfl⟩
  obtain ⟨W5, hW5⟩ : ∃ W, W = w4.alloc (.cells #[.int .i64 p, .int .i64 q] 23) := ⟨_, rfl⟩
  have K5 : Hid (Sv b4 p q W5 ∧ Sv b6 p q W5 ∧ IS W5 (.slice none 0 0) xs ∧ IS W5 (.slice none 0 0) xs ∧ Below w.heap.size w W5 ∧ ((p ≠ 0 ∧ vt = .slice none 0 0) ∨ (p = 0 ∧ PT.Vp xs ∧ IS W5 vt (PT.trn xs)))) := by
    show _ ∧ _
    have kb := below_one w4 (.cells #[.int .i64 p, .int .i64 q] 23)
    rw [hW5]
    obtain ⟨q1, q2, q3, q4, q5⟩ := K4.out
    exact ⟨q1.below kb, Sv.fresh p q hb6, q2.belowP kb, q3.belowP kb, q4.trans (kb.mono q4.size), q5.imp id (fun h => ⟨h.1, h.2.1, h.2.2.belowP kb⟩)⟩
  rw [← hW5, hb6]
  clear hW5 K4 hb6
  refine (HPf.out _ _ K5.out.2.2.2.1).mono ?_
  rintro e w6 ⟨rfl, k6⟩
  have K6 : Hid (Sv b4 p q w6 ∧ Sv b6 p q w6 ∧ IS w6 (.slice none 0 0) xs ∧ IS w6 (.slice none 0 0) xs ∧ Below w.heap.size w w6 ∧ ((p ≠ 0 ∧ vt = .slice none 0 0) ∨ (p = 0 ∧ PT.Vp xs ∧ IS w6 vt (PT.trn xs)))) := by
    obtain ⟨q1, q1', q2, q3, q4, q5⟩ := K5.out
    exact ⟨q1.below k6, q1'.below k6, q2.belowP k6, q3.belowP k6, q4.trans (k6.mono q4.size), q5.imp id (fun h => ⟨h.1, h.2.1, h.2.2.belowP k6⟩)⟩
  clear k6 K5 HPf
  go_wp2_with fail
  obtain ⟨b7, hb7⟩ : ∃ b, w6.heap.size = b := ⟨_, rfl⟩
  obtain ⟨W7, hW7⟩ : ∃ W, W = w6.alloc (.cells #[.int .i64 p, .int .i64 q] 23) := ⟨_, rfl⟩
  have K7 : Hid (Tb w W7 b4 b6 b7 p q (.slice none 0 0) (.slice none 0 0) xs ∧ ((p ≠ 0 ∧ vt = .slice none 0 0) ∨ (p = 0 ∧ PT.Vp xs ∧ IS W7 vt (PT.trn xs)))) := by
    show _ ∧ _
    have kb := below_one w6 (.cells #[.int .i64 p, .int .i64 q] 23)
    rw [hW7]
    obtain ⟨q1, q1', q2, q3, q4, q5⟩ := K6.out
    exact ⟨⟨q1.below kb, q1'.below kb, Sv.fresh p q hb7, q3.belowP kb, q2.belowP kb, q4.trans (kb.mono q4.size)⟩, q5.imp id (fun h => ⟨h.1, h.2.1, h.2.2.belowP kb⟩)⟩
  rw [← hW7, hb7]
  clear hW7 K6 hb7
  refine (HBg.out _ K7.out.1.k).mono ?_
  rintro e w8 ⟨rfl, k8⟩
  have K8 : Hid (Tb w w8 b4 b6 b7 p q (.slice none 0 0) (.slice none 0 0) xs ∧ ((p ≠ 0 ∧ vt = .slice none 0 0) ∨ (p = 0 ∧ PT.Vp xs ∧ IS w8 vt (PT.trn xs)))) := ⟨K7.out.1.below k8, K7.out.2.imp id (fun h => ⟨h.1, h.2.1, h.2.2.belowP k8⟩)⟩
  clear k8 K7 HBg
  have HIn : Hid (∀ s t (l : List Int) w, IS w s l → IS w t l → l.length ≤ 9000000000000000000 → Calls Tryd.prog 17 #[s, t] w fun e w' => e = .returned (.bool true) ∧ Below w.heap.size w w') := fun s t l w h1 h2 h3 => ints_yes s t l w h1 h2 h3
  have hNl : xs.length ≤ 9000000000000000000 := by have := HN.out; omega
  obtain ⟨u0, u1, u2, u3, u4⟩ := K8.out.1.s4
  obtain ⟨y0, y1, y2, y3, y4⟩ := K8.out.1.s6
  obtain ⟨z0, z1, z2, z3, z4⟩ := K8.out.1.s7
  go_wp2_with fail
  refine (HIn.out _ _ xs _ K8.out.1.o K8.out.1.v hNl).mono ?_
  rintro e w9 ⟨rfl, k9⟩
  have K9 : Hid (Tb w w9 b4 b6 b7 p q (.slice none 0 0) (.slice none 0 0) xs ∧ ((p ≠ 0 ∧ vt = .slice none 0 0) ∨ (p = 0 ∧ PT.Vp xs ∧ IS w9 vt (PT.trn xs)))) := ⟨K8.out.1.below k9, K8.out.2.imp id (fun h => ⟨h.1, h.2.1, h.2.2.belowP k9⟩)⟩
  clear k9 K8 u0 u1 u2 u3 u4 y0 y1 y2 y3 y4 z0 z1 z2 z3 z4
  obtain ⟨z0, z1, z2, z3, z4⟩ := K9.out.1.s7
  rcases K9.out.2 with ⟨hp0, rfl⟩ | ⟨hp0, hvp, hvt⟩
  · have tp : (p != 0) = true := bne_iff_ne.2 hp0
    go_wp2
    go_ret
    exact ⟨rfl, K9.out.1.k⟩
  · have tp : (p != 0) = false := by rw [hp0]; rfl
    subst hp0
    obtain ⟨at', gt, ot, ct, hvs, -, -, -⟩ := hvt.shape
    have HVp : Hid (PT.Vp xs) := hvp
    have hml := PT.mx_le hvp
    obtain ⟨L, hL⟩ : ∃ L, L = (PT.trn xs).length := ⟨_, rfl⟩
    have hLm : L = PT.mx xs := by rw [hL, PT.trn_len]
    have hL2 : L ≤ 2000 := by omega
    have HL : Hid (L = PT.mx xs ∧ L = (PT.trn xs).length) := ⟨hLm, hL⟩
    rw [← hL] at hvs
    subst hvs
    have K10 : Hid (Tb w w9 b4 b6 b7 0 q (.slice none 0 0) (.slice none 0 0) xs ∧ IS w9 (.slice at' L ct) (PT.trn xs)) := ⟨K9.out.1, hvt⟩
    have HTo : Hid (∀ v w, IS w v xs → Calls Tryd.prog 18 #[v] w fun e w' => ∃ v', e = .returned v' ∧ IS w' v' (PT.trn xs) ∧ Below w.heap.size w w') := fun v w h => by
      refine (refTurnedOf_any v xs (PT.mx xs) w h (by have := HVp.out.len; omega) (by omega) (fun k h1 h2 => PT.mx_pos HVp.out h1 h2) (PT.mx_end HVp.out)).mono ?_
      rintro e w' ⟨v', rfl, h1, h2⟩
      exact ⟨v', rfl, IS.ownP (PT.trn_len xs) h1, h2⟩
    clear K9 hvt hvp hml hL hLm
    go_wp2_with fail
    refine (HTo.out _ _ K10.out.1.v).mono ?_
    rintro e wa ⟨vr, rfl, ir, ka⟩
    have K11 : Hid (Tb w wa b4 b6 b7 0 q (.slice none 0 0) (.slice none 0 0) xs ∧ IS wa (.slice at' L ct) (PT.trn xs) ∧ IS wa vr (PT.trn xs)) := ⟨K10.out.1.below ka, K10.out.2.belowP ka, ir⟩
    clear ka ir K10 z0 z1 z2 z3 z4
    go_wp2_with fail
    refine (HIn.out _ _ (PT.trn xs) _ K11.out.2.1 K11.out.2.2 (by have := HL.out.2; omega)).mono ?_
    rintro e wb ⟨rfl, kb⟩
    have K12 : Hid (Tb w wb b4 b6 b7 0 q (.slice none 0 0) (.slice none 0 0) xs ∧ IS wb (.slice at' L ct) (PT.trn xs)) := ⟨K11.out.1.below kb, K11.out.2.1.belowP kb⟩
    clear kb K11
    go_wp2_with fail
    by_cases hgt : 1000 < L
    · have tg : decide (1000 < (L : Int)) = true := decide_eq_true (by omega)
      have hpf : PT.pf (PT.trn xs) = (2, 0) := by unfold PT.pf; rw [if_pos (by have := HL.out.2; omega)]
      have hI : I64 (PT.trn xs) := by
        refine ⟨by have := HL.out.2; omega, fun x hx => ?_⟩
        unfold PT.trn at hx
        rw [PT.tl_map] at hx
        obtain ⟨j, _, rfl⟩ := List.mem_map.1 hx
        have := PT.tge_len xs ((j + 1 : Nat) : Int)
        have := HVp.out.len
        omega
      have hb := hTu'.out.bad (.slice at' L ct) (PT.trn xs) wb K12.out.2 hI (by rw [hpf]; decide)
      unfold fagg at hb
      rw [hpf] at hb
      refine hb.mono ?_
      rintro e wc ⟨rfl, kc⟩
      have K13 : Hid (Below w.heap.size w wc) := K12.out.1.k.trans (kc.mono K12.out.1.k.size)
      clear kc hb hI hpf
      go_wp2_with fail
      obtain ⟨bc, hbc⟩ : ∃ b, wc.heap.size = b := ⟨_, rfl⟩
      obtain ⟨Wd, hWd⟩ : ∃ W, W = wc.alloc (.cells #[.int .i64 2, .int .i64 0] 23) := ⟨_, rfl⟩
      have K14 : Hid (Sv bc 2 0 Wd ∧ Below w.heap.size w Wd) := by
        show _ ∧ _
        rw [hWd]
        exact ⟨Sv.fresh 2 0 hbc, K13.out.trans ((below_one wc _).mono K13.out.size)⟩
      rw [← hWd, hbc]
      clear hWd hbc K13
      have HS : Hid (∀ W', Below Wd.heap.size Wd W' → W'.cell? ⟨bc, 0, none⟩ = some (.int .i64 2) ∧ W'.cell? ⟨bc, 1, none⟩ = some (.int .i64 0)) := fun W' kb => ⟨(K14.out.1.below kb).c0, (K14.out.1.below kb).c1⟩
      refine wp_region_G (fun W' => W'.cell? ⟨bc, 0, none⟩ = some (.int .i64 2) ∧ W'.cell? ⟨bc, 1, none⟩ = some (.int .i64 0)) 3 (by kernel_rfl) (HS.out _ (Below.refl _ _).drew) (fun hHeld => ?_)
      refine wpAnyG_take (i := 0) (v := ?v0x1) rfl (by kernel_rfl) (fun _ _ _ h => h) (Or.inl ⟨by rfl, ?y0x1⟩) hHeld ?r0x1
      case y0x1 => (intro wS hSw; obtain ⟨s1, s2⟩ := hSw; go_simp; try with_reducible rfl)
      simp only [Act.put, List.getElem_toArray, List.getElem_cons_zero, List.getElem_cons_succ, List.setIfInBounds_toArray, List.set_cons_zero, List.set_cons_succ]
      refine wpAnyG_one (i := 1) rfl (by kernel_rfl) (fun K hK => ?_)
      go_simp
      refine (F_any 2 0 _).mono ?_
      rintro e we ⟨rfl, ke⟩
      have ke' : Below Wd.heap.size Wd we := (Below.refl _ _).drew.trans (ke.mono (by simp))
      have K15 : Hid (Below w.heap.size w we) := K14.out.2.trans (ke'.mono K14.out.2.size)
      clear hHeld
      have hHeld : we.cell? ⟨bc, 0, none⟩ = some (.int .i64 2) ∧ we.cell? ⟨bc, 1, none⟩ = some (.int .i64 0) := HS.out _ ke'
      clear ke ke'
      refine hK.out _ _ hHeld ?_
      clear hK K
      refine wpAnyG_take (i := 2) (v := .bool true) rfl (by kernel_rfl) (fun _ _ _ h => h) (Or.inl ⟨by kernel_rfl, ?y2x2⟩) hHeld ?r2x2
      case y2x2 => (intro wS hSw; (go_simp))
      simp only [Act.put, List.getElem_toArray, List.getElem_cons_zero, List.getElem_cons_succ, List.setIfInBounds_toArray, List.set_cons_zero, List.set_cons_succ]
      refine wpAnyG_last (i := 3) rfl (by kernel_rfl) (by kernel_rfl) (fun K hK => ?_)
      go_simp
      refine hK.out _ _ ?_
      clear hK K
      refine wpAnyG_done (by kernel_rfl) ?_ _
      go_wp2
      go_ret
      exact ⟨rfl, K15.out⟩
    · have tg : decide (1000 < (L : Int)) = false := decide_eq_false (by omega)
      have hok := hTu'.out.ok (.slice at' L ct) (PT.trn xs) wb K12.out.2 (PT.trn_vp HVp.out (by have := HL.out.1; omega))
      rw [PT.trn_trn HVp.out] at hok
      refine hok.mono ?_
      rintro e wc ⟨vb, rfl, ib, kc⟩
      have K13 : Hid (Tb w wc b4 b6 b7 0 q (.slice none 0 0) (.slice none 0 0) xs ∧ IS wc vb xs) := ⟨K12.out.1.below kc, ib⟩
      clear kc ib hok
      go_wp2_with fail
      have kd := below_one wc (.cells #[.int .i64 0, .int .i64 0] 23)
      refine (HIn.out _ _ xs _ (K13.out.2.belowP kd) ((K13.out.1.below kd).v) hNl).mono ?_
      rintro e wd ⟨rfl, ke⟩
      have K14 : Hid (Below w.heap.size w wd) := ((K13.out.1.below kd).below ke).k
      clear kd ke
      go_wp2
      go_ret
      exact ⟨rfl, K14.out⟩

end Go.Proofs.YtmifenflbaohnaaDoor
