/- The law ContExpands, where a or b is no number. Written by expands.py. -/
import Derived.Test.YtaflfbofkeppjaaGreatDoorContExpandsWa
set_option linter.unusedSimpArgs false
set_option linter.unusedVariables false
set_option maxRecDepth 100000
namespace Go.Proofs.YtaflfbofkeppjaaGreatDoor
open Go.RowKit

set_option maxHeartbeats 8000000 in
theorem ce_bad (a b : Int) (l : List Int) (va : Option Addr) (vc : Nat) (w : World) (hT : Tq w) (hab : okB a b = false) (hv : IS w (.slice va l.length vc) l) (hA : l.length * 8 ≤ 140737488351232) (hca : ∀ ad, va = some ad → ∀ j u, (l.map fun x : Int => Value.int .i64 x)[j]? = some u → w.cell? (ad.add j) = some u) (hno : va = none → l = [] ∧ vc = 0) :
    Calls Tryz.prog 3 #[.int .i64 a, .int .i64 b, .slice va l.length vc] w fun e w' => e = .returned (.bool true) ∧ Below w.heap.size w w' := by
  have HT : Hid (∀ W, Below w.heap.size w W → Tq W) := fun W k => hT.below k
  have HBg : Hid (∀ w, Tq w → Calls Tryz.prog 12 #[] w fun e w' => e = .returned (.bool true) ∧ Below w.heap.size w w') := contBegun_any
  have HV : Hid (IS w (.slice va l.length vc) l) := hv
  have HCa : Hid (∀ ad, va = some ad → ∀ j u, (l.map fun x : Int => Value.int .i64 x)[j]? = some u → w.cell? (ad.add j) = some u) := hca
  have HNo : Hid (va = none → l = [] ∧ vc = 0) := hno
  have hne : ((nf 0 [a, b]).1 != 0) = true := by
    unfold okB at hab; unfold nf nf nf; cases h1 : numB a <;> cases h2 : numB b <;> simp_all
  obtain ⟨nc, nd, hcd⟩ : ∃ c d, nf 0 [a, b] = (c, d) := ⟨_, _, rfl⟩
  have HNf : Hid (nf 0 [a, b] = (nc, nd)) := hcd
  have HEx : Hid (∀ w, Calls Tryz.prog 9 #[.int .i64 a, .int .i64 b] w fun e w' => e = .returned (.tuple #[.slice none 0 0, .agg #[.int .i64 nc, .int .i64 nd]]) ∧ Below w.heap.size w w') := fun w => by
    have := Expand_bad a b w hab
    rw [hcd] at this; exact this
  rw [hcd] at hne
  simp only at hne
  have hnz : (nc == 0) = false := beq_eq_false_iff_ne.2 (bne_iff_ne.1 hne)
  clear hab hcd
  clear hT hv hca hno
  go_enter Tryz.func3, Tryz.ntmps3
  go_wp2_with fail
  refine (HEx.out w).mono ?_
  rintro e w1 ⟨rfl, k1⟩
  have HK1 : Hid (Below w.heap.size w w1) := k1
  clear k1 HEx
  go_wp2_with fail
  refine (refNumbersFault_any [a, b] _ 0 _ _ (by simp) ?_ ?_).mono ?_
  · simp
  · exact two_cells a b _ _ (by simp) (by simp)
  rw [HNf.out]
  rintro e w2 ⟨rfl, k2⟩
  have HQ2 : Hid (Sv w1.heap.size nc nd w2 ∧ Below w1.heap.size w1 w2) := by
    have t := (Sv.new nc nd w1).alloc #[.int .i64 a, .int .i64 b] 3
    exact ⟨t.below k2, (((Below.refl _ _).alloc (Nat.le_refl _) _).alloc (by simp) _).trans (k2.mono (by simp; omega))⟩
  obtain ⟨u2, hu2⟩ : ∃ u2, u2 = w2.alloc (.cells #[.int .i64 nc, .int .i64 nd] 24) := ⟨_, rfl⟩
  have HQ : Hid (Bq w u2 w1.heap.size w2.heap.size nc nd nc nd) := by
    have h1 := HQ2.out.1.lt
    have kk := HK1.out.trans (HQ2.out.2.mono HK1.out.size)
    have z1 := HK1.out.size
    show Bq _ _ _ _ _ _ _ _
    rw [hu2]
    exact ⟨HQ2.out.1.alloc _ _, Sv.new nc nd w2, by omega, by omega, by omega, kk.alloc kk.size _⟩
  have HU2 : Hid (u2 = w2.alloc (.cells #[.int .i64 nc, .int .i64 nd] 24)) := hu2
  clear hu2 k2 HQ2
  go_wp2_with fail
  rw [← HU2.out]
  have HQB : Hid (Bq w u2 w1.heap.size w2.heap.size nc nd nc nd) := HQ.out
  refine (HBg.out u2 (HT.out u2 HQB.out.k)).mono ?_
  rintro e w3 ⟨rfl, k3⟩
  have HQA : Hid (Bq w w3 w1.heap.size w2.heap.size nc nd nc nd) := HQB.out.below k3
  have q1 := HQA.out.s8.c0
  have q2 := HQA.out.s8.c1
  have q3 := HQA.out.s9.c0
  have q4 := HQA.out.s9.c1
  obtain ⟨wc, hwc⟩ : ∃ wc, wc = w3 := ⟨_, rfl⟩
  rw [← hwc] at HQA q1 q2 q3 q4 ⊢
  clear k3 HQ HQB HBg hwc
  clear w3
  go_upto_region 17 with fail
  go_cut [11] from 96 to 97 (fun ov wx => ∃ oa oc, ov = .slice oa l.length oc ∧ Hid (OwnL w1.heap.size oa l wx ∧ Bq w wx w1.heap.size w2.heap.size nc nd nc nd))
  case first =>
    obtain ⟨i0, hi, hz0, hz1, hz2⟩ := info_parts Tryz.infoInt
    have h8 := HQA.out.s8.lt
    cases va with
    | none =>
      obtain ⟨hl0, hv0⟩ := HNo.out rfl
      subst hl0 hv0
      go_wp2_with (at_builtin; refine wpList_append_own_none rfl _ _ 22 rfl wc.heap.size 3 i0 1 Tryz.underlying22 hi _ 0 [] rfl (World.ownsRow_nil _ _ _ _) rfl ?_)
      go_wp2
      go_meet
      exact ⟨none, 0, rfl, .inl rfl, HQA.out⟩
    | some ad =>
      have HCA : Hid (∀ j u, (l.map fun x : Int => Value.int .i64 x)[j]? = some u → wc.cell? (ad.add j) = some u) := fun j u hj => by
        have h := HCa.out ad rfl j u hj
        exact (HQA.out.k.cell (World.block_lt_of_cell? _ _ h)).trans h
      have HOA : Hid (∀ u ∈ (l.map fun x : Int => Value.int .i64 x), u.oneCell' = true) := by intro u hu; simp at hu; obtain ⟨x, _, rfl⟩ := hu; rfl
      go_wp2_with (at_builtin; refine wpList_append_own _ rfl _ _ 22 rfl wc.heap.size 3 i0 (.int .i64 0) 1 8 Tryz.underlying22 hi hz0 hz1 hz2 rfl (by decide) _ 0 [] rfl (World.ownsRow_nil _ _ _ _) ad l.length vc (l.map fun x : Int => Value.int .i64 x) rfl (by simp) HCA.out HOA.out (by unfold maxLen; omega) (by omega) (Nat.le_refl _) ?_)
      intro v1 wd hown hgrow _
      try simp only [Nat.zero_add, List.nil_append] at hown
      have kd : Below wc.heap.size wc wd := (Below.refl _ _).grown hgrow (Nat.le_refl _) (by simp [Value.ownBlock])
      obtain ⟨oa, og, oo, oc, rfl, _⟩ := IS.ownC (l := l) rfl (by rw [ints]; exact hown)
      have HIO : Hid (OwnL w1.heap.size oa l wd ∧ Bq w wd w1.heap.size w2.heap.size nc nd nc nd) := ⟨OwnL.of_row (by rw [ints]; exact hown) rfl h8, HQA.out.below kd⟩
      clear hown hgrow kd HCA HOA
      go_wp2
      go_meet
      exact ⟨oa, oc, rfl, HIO⟩
  case rest =>
    clear HQA
    obtain ⟨oa, oc, rfl, HI⟩ := hcut
    go_wp2_with fail
    refine (Fold_any l (.slice oa l.length oc) wc (HI.out.1.is oc).shows (by omega)).mono ?_
    rintro e w4 ⟨hFo, k4⟩
    obtain ⟨y1, y2, fc, fa, rfl, hFr⟩ := hFo.open
    have HFr : Hid (FoR l y1 y2 fc fa) := hFr
    have HQ4 : Hid (Bq w w4 w1.heap.size w2.heap.size nc nd nc nd) := HI.out.2.below k4
    have HIo : Hid (OwnL w1.heap.size oa l w4) := HI.out.1.below k4
    have q1 := HQ4.out.s8.c0
    have q2 := HQ4.out.s8.c1
    have q3 := HQ4.out.s8.f0
    have q4 := HQ4.out.s8.f1
    have q5 := HQ4.out.s8.lt
    clear hFo hFr k4 HI
    go_wp2_with fail
    obtain ⟨u4, hu4⟩ : ∃ u4, u4 = (((w4.setCell ⟨w1.heap.size, 0, none⟩ (.int .i64 fc)).setCell ⟨w1.heap.size, 1, none⟩ (.int .i64 fa)).alloc (.cells #[.int .i64 y1, .int .i64 y2] 42)) := ⟨_, rfl⟩
    have HZ4 : Hid (Bz w u4 w1.heap.size w2.heap.size w4.heap.size fc fa nc nd y1 y2 ∧ OwnL w1.heap.size oa l u4) := by
      have hq := HQ4.out.set8 fc fa
      have ho := (HIo.out.set (i := 0) (.int .i64 fc)).set (i := 1) (.int .i64 fa)
      have kk : Below ((w4.setCell ⟨w1.heap.size, 0, none⟩ (.int .i64 fc)).setCell ⟨w1.heap.size, 1, none⟩ (.int .i64 fa)).heap.size _ (((w4.setCell ⟨w1.heap.size, 0, none⟩ (.int .i64 fc)).setCell ⟨w1.heap.size, 1, none⟩ (.int .i64 fa)).alloc (.cells #[.int .i64 y1, .int .i64 y2] 42)) := (Below.refl _ _).alloc (Nat.le_refl _) _
      have hy := Cl.new [.int .i64 y1, .int .i64 y2] 42 ((w4.setCell ⟨w1.heap.size, 0, none⟩ (.int .i64 fc)).setCell ⟨w1.heap.size, 1, none⟩ (.int .i64 fa))
      have hs : ((w4.setCell ⟨w1.heap.size, 0, none⟩ (.int .i64 fc)).setCell ⟨w1.heap.size, 1, none⟩ (.int .i64 fa)).heap.size = w4.heap.size := by simp [World.setCell]
      rw [hs] at hy
      show Bz _ _ _ _ _ _ _ _ _ _ _ ∧ _
      rw [hu4]
      exact ⟨⟨hq.below kk, hy, Nat.ne_of_gt HQ4.out.s9.lt⟩, ho.below kk⟩
    have HU4 : Hid (u4 = (((w4.setCell ⟨w1.heap.size, 0, none⟩ (.int .i64 fc)).setCell ⟨w1.heap.size, 1, none⟩ (.int .i64 fa)).alloc (.cells #[.int .i64 y1, .int .i64 y2] 42))) := hu4
    clear hu4 q1 q2 q3 q4 q5
    rw [← HU4.out]
    refine (refInts_any (.slice oa l.length oc) (.slice va l.length vc) l l u4 (HZ4.out.2.is oc) (HV.out.belowC HZ4.out.1.q.k) (by omega) (by omega)).mono ?_
    rw [decide_eq_true (show l = l from rfl)]
    rintro e w5 ⟨rfl, kq, hw5⟩
    have HZ5 : Hid (Bz w w5 w1.heap.size w2.heap.size w4.heap.size fc fa nc nd y1 y2) := by
      show Bz _ _ _ _ _ _ _ _ _ _ _
      rw [hw5]; exact HZ4.out.1.below (below_drewN' (Below.refl _ _))
    obtain ⟨L, hL⟩ : ∃ L, L = l.length := ⟨_, rfl⟩
    have HLe : Hid (L = l.length) := hL
    have hLb : L ≤ 17592186043904 := by omega
    have q1 := HZ5.out.q.s9.c0
    have q2 := HZ5.out.q.s9.c1
    have q3 := HZ5.out.q.s9.f0
    have q4 := HZ5.out.q.s9.f1
    rw [← hL]
    clear hw5 HU4 hL
    go_upto_if 110 with fail
    obtain ⟨w6, hw6⟩ : ∃ w6, w6 = (w5.setCell ⟨w2.heap.size, 0, none⟩ (.int .i64 0)).setCell ⟨w2.heap.size, 1, none⟩ (.int .i64 0) := ⟨_, rfl⟩
    have HZ6 : Hid (Bz w w6 w1.heap.size w2.heap.size w4.heap.size fc fa 0 0 y1 y2) := by
      show Bz _ _ _ _ _ _ _ _ _ _ _
      rw [hw6]; exact HZ5.out.set9 0 0
    rw [← hw6]
    clear q1 q2 q3 q4 hw6
    have q1 := HZ6.out.q.s9.c0
    have q2 := HZ6.out.q.s9.c1
    have q3 := HZ6.out.q.s9.f0
    have q4 := HZ6.out.q.s9.f1
    go_cut [13] from 110 to 115 (fun _ wx => ∃ c d : Int, Hid (Bz w wx w1.heap.size w2.heap.size w4.heap.size fc fa c d y1 y2 ∧ ((c = 0 ∧ d = 0 ∧ 1 ≤ L ∧ L ≤ 1000) ∨ (c ≠ 0 ∧ lfault l = (c, d)))))
    case first =>
      by_cases h1 : 1000 < L
      · have hf : lfault l = (2, 0) := by unfold lfault; rw [if_pos (by have := HLe.out; omega)]
        have HF : Hid (lfault l = (2, 0)) := hf
        clear hf
        go_wp2_with fail
        refine (F_any 2 0 w6).mono ?_
        rintro e w7 ⟨rfl, k7⟩
        have HZ7 : Hid (Bz w w7 w1.heap.size w2.heap.size w4.heap.size fc fa 0 0 y1 y2) := HZ6.out.below k7
        have r1 := HZ7.out.q.s9.c0
        have r2 := HZ7.out.q.s9.c1
        have r3 := HZ7.out.q.s9.f0
        have r4 := HZ7.out.q.s9.f1
        clear k7 q1 q2 q3 q4
        go_wp2
        go_meet
        exact ⟨2, 0, HZ7.out.set9 2 0, .inr ⟨by decide, HF.out⟩⟩
      · by_cases h0 : L = 0
        · have hf : lfault l = (5, 0) := by unfold lfault; rw [if_neg (by have := HLe.out; omega), if_pos (by have := HLe.out; omega)]
          have HF : Hid (lfault l = (5, 0)) := hf
          clear hf
          subst h0
          go_wp2_with fail
          refine (F_any 5 0 w6).mono ?_
          rintro e w7 ⟨rfl, k7⟩
          have HZ7 : Hid (Bz w w7 w1.heap.size w2.heap.size w4.heap.size fc fa 0 0 y1 y2) := HZ6.out.below k7
          have r1 := HZ7.out.q.s9.c0
          have r2 := HZ7.out.q.s9.c1
          have r3 := HZ7.out.q.s9.f0
          have r4 := HZ7.out.q.s9.f1
          clear k7 q1 q2 q3 q4
          go_wp2
          go_meet
          exact ⟨5, 0, HZ7.out.set9 5 0, .inr ⟨by decide, HF.out⟩⟩
        · have hb1 : decide ((1000 : Int) < (L : Int)) = false := decide_eq_false (by omega)
          have hb0 : ((L : Int) == 0) = false := beq_eq_false_iff_ne.2 (by omega)
          have HLL : Hid (1 ≤ L ∧ L ≤ 1000) := ⟨by omega, by omega⟩
          have h1' : L ≤ 1000 := by omega
          have h0' : 1 ≤ L := by omega
          go_wp2
          go_meet
          exact ⟨0, 0, HZ6.out, .inl ⟨rfl, rfl, HLL.out.1, HLL.out.2⟩⟩
    case rest =>
      clear HZ6 HZ5 HZ4 HQ4 HIo q1 q2 q3 q4
      obtain ⟨c0, d0, HS⟩ := hcut
      go_wp2
      go_loopw [13] (fun iv wx => ∃ (k : Nat) (c d : Int), k ≤ L ∧ iv = .int .i64 k ∧ Hid (Bz w wx w1.heap.size w2.heap.size w4.heap.size fc fa c d y1 y2 ∧ ((c = 0 ∧ d = 0 ∧ 1 ≤ L ∧ L ≤ 1000 ∧ ∀ j, j < k → okE j (l.getD j 0) = true) ∨ (c ≠ 0 ∧ lfault l = (c, d))))) (fun iv _ => L - (intOf iv).toNat)
      case atStart =>
        refine ⟨0, c0, d0, Nat.zero_le _, rfl, HS.out.1, ?_⟩
        rcases HS.out.2 with ⟨h1, h2, h3, h4⟩ | h
        · exact .inl ⟨h1, h2, h3, h4, fun j hj => by omega⟩
        · exact .inr h
      case round =>
        clear HS
        obtain ⟨k, c, d, hk, rfl, HS⟩ := hrel
        have q1 := HS.out.1.q.s9.c0
        have q2 := HS.out.1.q.s9.c1
        have q3 := HS.out.1.q.s9.f0
        have q4 := HS.out.1.q.s9.f1
        have q5 := HS.out.1.q.s8.c0
        have q6 := HS.out.1.q.s8.c1
        have q7 := HS.out.1.y.cell 0
        have q8 := HS.out.1.y.cell 1
        simp only [List.getElem?_cons_zero, List.getElem?_cons_succ] at q7 q8
        rcases HS.out.2 with ⟨rfl, rfl, hL1, hL2, hok⟩ | ⟨hc0, hlf⟩
        · have HOK : Hid (∀ j, j < k → okE j (l.getD j 0) = true) := hok
          clear hok
          obtain ⟨hln, vg', vo', hva, hRw⟩ := (HV.out.belowC HS.out.1.q.k).rw (by have := HLe.out; omega)
          have HRw : Hid (Rw vg' vo' l wr) := hRw
          subst hva
          clear hln hRw
          by_cases hlt : k < L
          · have hck := HRw.out.2 k (by rw [← HLe.out]; exact hlt)
            obtain ⟨x, hx⟩ : ∃ x, x = l.getD k 0 := ⟨_, rfl⟩
            rw [← hx] at hck
            have HX : Hid (x = l.getD k 0) := hx
            clear hx
            have HLf : Hid (okE k (l.getD k 0) = false → lfault l = (3, (k : Int))) := fun h => by
              unfold lfault
              rw [if_neg (by have := HLe.out; omega), if_neg (by have := HLe.out; omega)]
              exact lf_hit l k (by rw [← HLe.out]; exact hlt) HOK.out h
            cases hn : numB x
            · have HBad : Hid (lfault l = (3, (k : Int))) := HLf.out (by rw [← HX.out]; exact okE_bad0 hn)
              go_wp2_with fail
              refine (number_any x wr).mono ?_
              rw [hn]
              rintro e w7 ⟨rfl, hw7⟩
              rw [hw7]
              clear hw7 w7
              go_wp2_with fail
              refine (F_any 3 (k : Int) wr).mono ?_
              rintro e w7 ⟨rfl, k7⟩
              have HZ7 : Hid (Bz w w7 w1.heap.size w2.heap.size w4.heap.size fc fa 0 0 y1 y2) := HS.out.1.below k7
              have r1 := HZ7.out.q.s9.c0
              have r2 := HZ7.out.q.s9.c1
              have r3 := HZ7.out.q.s9.f0
              have r4 := HZ7.out.q.s9.f1
              clear k7 q1 q2 q3 q4 q5 q6 q7 q8
              go_wp2
              go_roundw
              case rel => exact ⟨k + 1, 3, (k : Int), by omega, by go_num, HZ7.out.set9 3 (k : Int), .inr ⟨by decide, HBad.out⟩⟩
              case measure => simp [intOf]; omega
            · rcases Nat.eq_zero_or_pos k with hk0 | hk0
              · subst hk0
                simp only [Nat.add_zero] at hck
                have HG : Hid (okE 0 (l.getD 0 0) = true) := by show _ = _; rw [← HX.out]; exact okE_first hn
                go_wp2_with fail
                refine (number_any x wr).mono ?_
                rw [hn]
                rintro e w7 ⟨rfl, hw7⟩
                rw [hw7]
                clear hw7 w7
                go_wp2
                go_roundw
                case rel =>
                  refine ⟨0 + 1, 0, 0, by omega, by go_num, HS.out.1, .inl ⟨rfl, rfl, hL1, hL2, fun j hj => ?_⟩⟩
                  by_cases hjk : j = 0
                  · subst hjk; exact HG.out
                  · exact HOK.out j (by omega)
                case measure => simp [intOf]; omega
              · rcases Int.lt_or_le x 1 with hx1 | hx1
                · have HBad : Hid (lfault l = (3, (k : Int))) := HLf.out (by rw [← HX.out]; exact okE_bad hk0 hx1)
                  go_wp2_with fail
                  refine (number_any x wr).mono ?_
                  rw [hn]
                  rintro e w7 ⟨rfl, hw7⟩
                  rw [hw7]
                  clear hw7 w7
                  go_wp2_with fail
                  refine (F_any 3 (k : Int) wr).mono ?_
                  rintro e w7 ⟨rfl, k7⟩
                  have HZ7 : Hid (Bz w w7 w1.heap.size w2.heap.size w4.heap.size fc fa 0 0 y1 y2) := HS.out.1.below k7
                  have r1 := HZ7.out.q.s9.c0
                  have r2 := HZ7.out.q.s9.c1
                  have r3 := HZ7.out.q.s9.f0
                  have r4 := HZ7.out.q.s9.f1
                  clear k7 q1 q2 q3 q4 q5 q6 q7 q8
                  go_wp2
                  go_roundw
                  case rel => exact ⟨k + 1, 3, (k : Int), by omega, by go_num, HZ7.out.set9 3 (k : Int), .inr ⟨by decide, HBad.out⟩⟩
                  case measure => simp [intOf]; omega
                · have HG : Hid (okE k (l.getD k 0) = true) := by show _ = _; rw [← HX.out]; exact okE_good hn hx1
                  go_wp2_with fail
                  refine (number_any x wr).mono ?_
                  rw [hn]
                  rintro e w7 ⟨rfl, hw7⟩
                  rw [hw7]
                  clear hw7 w7
                  go_wp2
                  go_roundw
                  case rel =>
                    refine ⟨k + 1, 0, 0, by omega, by go_num, HS.out.1, .inl ⟨rfl, rfl, hL1, hL2, fun j hj => ?_⟩⟩
                    by_cases hjk : j = k
                    · subst hjk; exact HG.out
                    · exact HOK.out j (by omega)
                  case measure => simp [intOf]; omega
          · have hkL : L = k := by omega
            subst hkL
            have h00 : lfault l = (0, 0) := by
              unfold lfault
              rw [if_neg (by have := HLe.out; omega), if_neg (by have := HLe.out; omega)]
              exact lf_none l (fun j hj => HOK.out j (by have := HLe.out; omega))
            have hfl := lfault_fl h00
            obtain ⟨P, hP⟩ : ∃ P, P = (CnQ.cf l).1 := ⟨_, rfl⟩
            obtain ⟨Q, hQ⟩ : ∃ Q, Q = (CnQ.cf l).2 := ⟨_, rfl⟩
            have HCo : Hid (Calls Tryz.prog 13 #[.slice (some ⟨vg', vo', none⟩) L vc] wr fun e w' => ∃ bx, e = .returned (.pointer (some ⟨bx, 0, none⟩)) ∧ Rt w' bx P Q ∧ wr.heap.size ≤ bx ∧ Below wr.heap.size wr w') := by
              have := Comes_any l vg' vo' vc wr hfl HRw.out
              rw [← HLe.out, ← hP, ← hQ] at this; exact this
            have HPQ : Hid (P.natAbs < pw 2001 ∧ Q.natAbs < pw 2001) := by
              have h1 := hfl.bound 0
              rw [List.drop_zero] at h1
              rw [hP, hQ]; exact h1
            have hFR : (inM P ∧ inM Q ∧ y1 = P ∧ y2 = Q ∧ fc = 0 ∧ fa = 0) ∨ (¬ (inM P ∧ inM Q) ∧ y1 = 0 ∧ y2 = 0 ∧ fc = 9 ∧ fa = 0) := by
              rw [hP, hQ]
              rcases HFr.out with ⟨h, _⟩ | ⟨_, h1, h2, h3, h4, h5, h6⟩ | ⟨_, h1, h2, h3, h4, h5⟩
              · exact absurd h00 h
              · exact .inl ⟨h1, h2, h3, h4, h5, h6⟩
              · exact .inr ⟨h1, h2, h3, h4, h5⟩
            clear h00 hfl hP hQ
            go_wp2_with fail
            refine HCo.out.mono ?_
            rintro e w7 ⟨bx, rfl, r7, l7, k7⟩
            have HZ7 : Hid (Bz w w7 w1.heap.size w2.heap.size w4.heap.size fc fa 0 0 y1 y2 ∧ Rt w7 bx P Q) := ⟨HS.out.1.below k7, r7⟩
            clear r7 l7 k7 q1 q2 q3 q4 q5 q6 q7 q8 HCo
            go_wp2_with fail
            refine (Num_any bx w7 HZ7.out.2.at'.num.lt).mono ?_
            rintro e w8 ⟨rfl, hw8⟩
            rw [hw8]
            clear hw8 w8
            go_wp2_with fail
            refine (B_any 1000000000000000000 w7 (by omega) (by omega)).mono ?_
            rintro e w8 ⟨b8, rfl, m8⟩
            have HZ8 : Hid (Bz w w8 w1.heap.size w2.heap.size w4.heap.size fc fa 0 0 y1 y2 ∧ Rt w8 bx P Q ∧ BigAt w8 b8 1000000000000000000) := ⟨HZ7.out.1.below m8.2.2, HZ7.out.2.below m8.2.2, m8.2.1⟩
            clear m8
            obtain ⟨cP, hcP⟩ : ∃ cP, cP = cmpN P.natAbs (1000000000000000000 : Int).natAbs := ⟨_, rfl⟩
            obtain ⟨cQ, hcQ⟩ : ∃ cQ, cQ = cmpN Q.natAbs (1000000000000000000 : Int).natAbs := ⟨_, rfl⟩
            have HcP : Hid (cP = cmpN P.natAbs (1000000000000000000 : Int).natAbs ∧ cQ = cmpN Q.natAbs (1000000000000000000 : Int).natAbs) := ⟨hcP, hcQ⟩
            have HI1 : Hid ((cP ≤ 0 ↔ inM P) ∧ (cQ ≤ 0 ↔ inM Q)) := ⟨by rw [hcP, cmpN_le, inM_nat]; exact Iff.rfl, by rw [hcQ, cmpN_le, inM_nat]; exact Iff.rfl⟩
            clear hcP hcQ
            go_wp2_with fail
            refine (CmpAbs_at 0 0 bx b8 P 1000000000000000000 2001 2001 w8 HZ8.out.2.1.at'.num HZ8.out.2.2.at HPQ.out.1 (small_pw (by decide)) (by omega) (by omega)).mono ?_
            rw [← HcP.out.1]
            rintro e w9 ⟨rfl, k9⟩
            have HZ9 : Hid (Bz w w9 w1.heap.size w2.heap.size w4.heap.size fc fa 0 0 y1 y2 ∧ Rt w9 bx P Q) := ⟨HZ8.out.1.below k9, HZ8.out.2.1.below k9⟩
            clear k9
            by_cases hc1 : cP ≤ 0
            · have HP1 : Hid (inM P) := HI1.out.1.1 hc1
              go_wp2_with fail
              refine (Denom_pos bx P Q 2001 w9 HZ9.out.2.at' HZ9.out.2.pos HPQ.out.2 (by omega)).mono ?_
              rintro e wa ⟨ba, rfl, ma⟩
              have HZa : Hid (Bz w wa w1.heap.size w2.heap.size w4.heap.size fc fa 0 0 y1 y2 ∧ Rt wa bx P Q ∧ BigAt wa ba Q) := ⟨HZ9.out.1.below ma.2.2, HZ9.out.2.below ma.2.2, ma.2.1⟩
              clear ma
              go_wp2_with fail
              refine (B_any 1000000000000000000 wa (by omega) (by omega)).mono ?_
              rintro e wb ⟨bb, rfl, mb⟩
              have HZb : Hid (Bz w wb w1.heap.size w2.heap.size w4.heap.size fc fa 0 0 y1 y2 ∧ Rt wb bx P Q ∧ BigAt wb ba Q ∧ BigAt wb bb 1000000000000000000) := ⟨HZa.out.1.below mb.2.2, HZa.out.2.1.below mb.2.2, HZa.out.2.2.below mb.2.2 (Nat.le_refl _), mb.2.1⟩
              clear mb
              go_wp2_with fail
              refine (CmpAbs_at 0 0 ba bb Q 1000000000000000000 2001 2001 wb HZb.out.2.2.1.at HZb.out.2.2.2.at HPQ.out.2 (small_pw (by decide)) (by omega) (by omega)).mono ?_
              rw [← HcP.out.2]
              rintro e wf ⟨rfl, kf⟩
              have HZf : Hid (Bz w wf w1.heap.size w2.heap.size w4.heap.size fc fa 0 0 y1 y2 ∧ Rt wf bx P Q) := ⟨HZb.out.1.below kf, HZb.out.2.1.below kf⟩
              have q1 := HZf.out.1.q.s9.c0
              have q2 := HZf.out.1.q.s9.c1
              have q3 := HZf.out.1.q.s9.f0
              have q4 := HZf.out.1.q.s9.f1
              have q5 := HZf.out.1.q.s8.c0
              have q6 := HZf.out.1.q.s8.c1
              have q7 := HZf.out.1.y.cell 0
              have q8 := HZf.out.1.y.cell 1
              simp only [List.getElem?_cons_zero, List.getElem?_cons_succ] at q7 q8
              clear kf
              by_cases hc2 : cQ ≤ 0
              · rcases hFR with ⟨h1, h2, rfl, rfl, rfl, rfl⟩ | ⟨h, _⟩
                · have HM : Hid (inM y1 ∧ inM y2) := ⟨h1, h2⟩
                  clear h1 h2
                  go_wp2_with fail
                  refine (FracIs_yes bx y1 y2 wf HZf.out.2 (inM_nat.1 HM.out.1) (inM_nat.1 HM.out.2) HPQ.out.1 HPQ.out.2).mono ?_
                  rintro e wg ⟨rfl, kg⟩
                  have HE : Hid (Below w.heap.size w wg) := HZf.out.1.q.k.trans (kg.mono HZf.out.1.q.k.size)
                  clear kg
                  go_wp2
                  go_ret
                  exact ⟨rfl, HE.out⟩
                · exact absurd ⟨HI1.out.1.1 hc1, HI1.out.2.1 hc2⟩ h
              · rcases hFR with ⟨h1, h2, _⟩ | ⟨_, rfl, rfl, rfl, rfl⟩
                · exact absurd (HI1.out.2.2 h2) hc2
                · go_wp2_with fail
                  refine (F_any 9 0 wf).mono ?_
                  rintro e wm ⟨rfl, km⟩
                  have HZm : Hid (Bz w wm w1.heap.size w2.heap.size w4.heap.size 9 0 0 0 0 0) := HZf.out.1.below km
                  clear km q1 q2 q3 q4 q5 q6 q7 q8
                  have q1 := HZm.out.q.s9.c0
                  have q2 := HZm.out.q.s9.c1
                  have q3 := HZm.out.q.s9.f0
                  have q4 := HZm.out.q.s9.f1
                  have q5 := HZm.out.q.s8.c0
                  have q6 := HZm.out.q.s8.c1
                  have q7 := HZm.out.y.cell 0
                  have q8 := HZm.out.y.cell 1
                  simp only [List.getElem?_cons_zero, List.getElem?_cons_succ] at q7 q8
                  obtain ⟨wn, hwn⟩ : ∃ wn, wn = (wm.setCell ⟨w2.heap.size, 0, none⟩ (.int .i64 9)).setCell ⟨w2.heap.size, 1, none⟩ (.int .i64 0) := ⟨_, rfl⟩
                  have HZn : Hid (Bz w wn w1.heap.size w2.heap.size w4.heap.size 9 0 9 0 0 0) := by
                    show Bz _ _ _ _ _ _ _ _ _ _ _
                    rw [hwn]; exact HZm.out.set9 9 0
                  have HE : Hid (Below w.heap.size w wn) := HZn.out.q.k
                  go_upto_region 36 with fail
                  rw [← hwn]
                  clear hwn q1 q2 q3 q4 q5 q6 q7 q8
                  have q1 := HZn.out.q.s9.c0
                  have q2 := HZn.out.q.s9.c1
                  have q5 := HZn.out.q.s8.c0
                  have q6 := HZn.out.q.s8.c1
                  have q7 := HZn.out.y.cell 0
                  have q8 := HZn.out.y.cell 1
                  simp only [List.getElem?_cons_zero, List.getElem?_cons_succ] at q7 q8
                  go_wp2
                  go_ret
                  exact ⟨rfl, HE.out⟩
            · rcases hFR with ⟨h1, h2, _⟩ | ⟨_, rfl, rfl, rfl, rfl⟩
              · exact absurd (HI1.out.1.2 h1) hc1
              · have q1 := HZ9.out.1.q.s9.c0
                have q2 := HZ9.out.1.q.s9.c1
                have q3 := HZ9.out.1.q.s9.f0
                have q4 := HZ9.out.1.q.s9.f1
                have q5 := HZ9.out.1.q.s8.c0
                have q6 := HZ9.out.1.q.s8.c1
                have q7 := HZ9.out.1.y.cell 0
                have q8 := HZ9.out.1.y.cell 1
                simp only [List.getElem?_cons_zero, List.getElem?_cons_succ] at q7 q8
                go_wp2_with fail
                refine (F_any 9 0 w9).mono ?_
                rintro e wm ⟨rfl, km⟩
                have HZm : Hid (Bz w wm w1.heap.size w2.heap.size w4.heap.size 9 0 0 0 0 0) := HZ9.out.1.below km
                clear km q1 q2 q3 q4 q5 q6 q7 q8
                have q1 := HZm.out.q.s9.c0
                have q2 := HZm.out.q.s9.c1
                have q3 := HZm.out.q.s9.f0
                have q4 := HZm.out.q.s9.f1
                have q5 := HZm.out.q.s8.c0
                have q6 := HZm.out.q.s8.c1
                have q7 := HZm.out.y.cell 0
                have q8 := HZm.out.y.cell 1
                simp only [List.getElem?_cons_zero, List.getElem?_cons_succ] at q7 q8
                obtain ⟨wn, hwn⟩ : ∃ wn, wn = (wm.setCell ⟨w2.heap.size, 0, none⟩ (.int .i64 9)).setCell ⟨w2.heap.size, 1, none⟩ (.int .i64 0) := ⟨_, rfl⟩
                have HZn : Hid (Bz w wn w1.heap.size w2.heap.size w4.heap.size 9 0 9 0 0 0) := by
                  show Bz _ _ _ _ _ _ _ _ _ _ _
                  rw [hwn]; exact HZm.out.set9 9 0
                have HE : Hid (Below w.heap.size w wn) := HZn.out.q.k
                go_upto_region 36 with fail
                rw [← hwn]
                clear hwn q1 q2 q3 q4 q5 q6 q7 q8
                have q1 := HZn.out.q.s9.c0
                have q2 := HZn.out.q.s9.c1
                have q5 := HZn.out.q.s8.c0
                have q6 := HZn.out.q.s8.c1
                have q7 := HZn.out.y.cell 0
                have q8 := HZn.out.y.cell 1
                simp only [List.getElem?_cons_zero, List.getElem?_cons_succ] at q7 q8
                go_wp2
                go_ret
                exact ⟨rfl, HE.out⟩
        · have hcb : (c == 0) = false := beq_eq_false_iff_ne.2 hc0
          have hFR : y1 = 0 ∧ y2 = 0 ∧ fc = c ∧ fa = d := by
            rcases HFr.out with ⟨_, h1, h2, h3⟩ | ⟨h, _⟩ | ⟨h, _⟩
            · rw [hlf] at h3
              injection h3 with e1 e2
              exact ⟨h1, h2, e1.symm, e2.symm⟩
            · rw [hlf] at h; injection h with e1 _; exact absurd e1 hc0
            · rw [hlf] at h; injection h with e1 _; exact absurd e1 hc0
          obtain ⟨rfl, rfl, rfl, rfl⟩ := hFR
          have HE : Hid (Below w.heap.size w wr) := HS.out.1.q.k
          clear hlf hc0
          by_cases hlt : k < L
          · go_wp2
            go_ret
            exact ⟨rfl, HE.out⟩
          · have hb1 : decide ((k : Int) < (L : Int)) = false := decide_eq_false (by omega)
            go_wp2
            go_ret
            exact ⟨rfl, HE.out⟩


end Go.Proofs.YtaflfbofkeppjaaGreatDoor
