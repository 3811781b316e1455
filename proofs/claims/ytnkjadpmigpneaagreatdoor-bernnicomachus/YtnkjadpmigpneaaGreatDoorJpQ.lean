import Derived.Test.YtnkjadpmigpneaaGreatDoorBrC
import Derived.Maps.AppendAt
section
set_option linter.unusedSimpArgs false
set_option linter.unusedVariables false
set_option maxRecDepth 100000
namespace Go.Proofs.YtnkjadpmigpneaaGreatDoor
open Go.RowKit LgM
theorem SO.setBox {B N b : Nat} {w : World} {v : Value} {x : Nat → Int} {a a' : Option Addr} {k c k' c' : Nat} {z z' : Bool} {t : TypeId} (h : SO B w v N x) (hb : b < B) (hc : Cl b [.slice a k c, .bool z] t w) : SO B ((w.setCell ⟨b, 0, none⟩ (.slice a' k' c')).setCell ⟨b, 1, none⟩ (.bool z')) v N x := by
  obtain ⟨us, h1, h2⟩ := h
  refine ⟨us, ownsRow_setCell_below (ownsRow_setCell_below h1 (by show b < _; omega) _) (by show b < _; omega) _, fun j hj => ?_⟩
  obtain ⟨sa, sk, sc, c1, c2, c3⟩ := h2 j hj
  exact ⟨sa, sk, sc, c1, c2, c3.setTwo hc⟩
structure Nb (w : World) (n i : Nat) (vb av cv : Value) (W : World) : Prop where
  row : SO (w.heap.size + 1) W av (i + 1) (BN.bz n)
  chs : VA W cv (i + 2) (fun j => ((BN.ch (i + 1) j : Nat) : Int))
  ne : ∀ g, cv.ownBlock = some g → av.ownBlock ≠ some g
  box : Cl w.heap.size [vb, .bool false] 66 W
  low : LN W vb (BN.prm (n + 1))
  k : Below w.heap.size w W
set_option maxHeartbeats 1500000 in
theorem numbers_any (n : Nat) (w : World) (hn : n ≤ 200) (hT : Tb w) :
    Calls Tryz.prog 36 #[.int .i64 (n : Int)] w fun e w' => ∃ v u, e = .returned (.tuple #[v, .agg #[u, .bool false]]) ∧ SO w.heap.size w' v (n + 1) (BN.bz n) ∧ LN w' u (BN.prm (n + 1)) ∧ Below w.heap.size w w' := by
  obtain ⟨i0, hi, hz0, hz1, hz2⟩ := info_parts Tryz.infoSg
  have HI : Hid (Tryz.prog.info? 66 = some i0 ∧ i0.zero = some (.agg #[.slice none 0 0, .bool false]) ∧ i0.size = 2 ∧ i0.bytes = 32) := ⟨hi, hz0, hz1, hz2⟩
  clear hi hz0 hz1 hz2
  obtain ⟨n1, hn1⟩ : ∃ n1, n1 = n + 1 := ⟨_, rfl⟩
  have hn1i : (n : Int) + 1 = (n1 : Int) := by omega
  obtain ⟨W0, hW0⟩ : ∃ W0, W0 = w.alloc (.cells #[.slice none 0 0, .bool false] 66) := ⟨_, rfl⟩
  have HW0 : Hid (Cl w.heap.size [.slice none 0 0, .bool false] 66 W0 ∧ Below w.heap.size w W0 ∧ W0.heap.size = w.heap.size + 1) := by
    show _ ∧ _
    rw [hW0]
    exact ⟨Cl.new [.slice none 0 0, .bool false] 66 w, (Below.refl _ _).alloc (Nat.le_refl _) _, by simp⟩
  have HPr : Hid (Calls Tryz.prog 71 #[.int .i64 (n1 : Int)] W0 fun e w' => ∃ v, e = .returned (.agg #[v, .bool false]) ∧ LN w' v (BN.prm (n + 1)) ∧ Below W0.heap.size W0 w') := by
    have := primorial_any n1 W0 (by omega) (hT.below HW0.out.2.1)
    rw [hn1] at this ⊢
    exact this
  clear hT hn1
  go_enter Tryz.func36, Tryz.ntmps36
  go_wp2_with fail
  rw [← hW0]
  clear hW0
  refine HPr.out.mono ?_
  rintro e w1 ⟨v1, rfl, l1, k1⟩
  obtain ⟨a1, m1, c1, rfl⟩ := l1.shape
  have hC1 := HW0.out.1.below k1
  have hz1 : w.heap.size + 1 ≤ w1.heap.size := by have := k1.size; rw [HW0.out.2.2] at this; exact this
  have q1 := hC1.cell 0
  have q2 := hC1.cell 1
  have q3 := hC1.frozen 0
  have q4 := hC1.frozen 1
  simp at q1 q2
  obtain ⟨W2, hW2⟩ : ∃ W2, W2 = (w1.setCell ⟨w.heap.size, 0, none⟩ (.slice a1 m1 c1)).setCell ⟨w.heap.size, 1, none⟩ (.bool false) := ⟨_, rfl⟩
  have hC2 : Cl w.heap.size [.slice a1 m1 c1, .bool false] 66 W2 := by rw [hW2]; exact hC1.two _ _
  have hL2 : LN W2 (.slice a1 m1 c1) (BN.prm (n + 1)) := by rw [hW2]; exact l1.setTwo hC1
  have hK2 : Below w.heap.size w W2 := by rw [hW2]; exact ((HW0.out.2.1.trans (k1.mono (by have := HW0.out.2.2; omega))).setCell (by simp) _).setCell (by simp) _
  have hZ2 : w.heap.size + 1 ≤ W2.heap.size := by rw [hW2]; simpa using hz1
  have p1 : W2.cell? ⟨w.heap.size, 0, none⟩ = some (.slice a1 m1 c1) := by have := hC2.cell 0; simpa using this
  have p2 : W2.cell? ⟨w.heap.size, 1, none⟩ = some (.bool false) := by have := hC2.cell 1; simpa using this
  have HL2 : Hid (Cl w.heap.size [.slice a1 m1 c1, .bool false] 66 W2 ∧ LN W2 (.slice a1 m1 c1) (BN.prm (n + 1)) ∧ Below w.heap.size w W2 ∧ w.heap.size + 1 ≤ W2.heap.size) := ⟨hC2, hL2, hK2, hZ2⟩
  have HP2 : Hid (W2.cell? ⟨w.heap.size, 0, none⟩ = some (.slice a1 m1 c1) ∧ W2.cell? ⟨w.heap.size, 1, none⟩ = some (.bool false)) := ⟨p1, p2⟩
  have HCh : Hid (∀ W, Calls Tryz.prog 72 #[.int .i64 1] W fun e w' => ∃ v', e = .returned v' ∧ SO W.heap.size w' v' 2 (fun j => ((BN.ch 1 j : Nat) : Int)) ∧ Below W.heap.size W w') := fun W => choicesOf_any 1 W (by omega)
  have hsz : W2.heap.size = w1.heap.size := by rw [hW2]; simp
  obtain ⟨W3, hW3⟩ : ∃ W3, W3 = W2.alloc (.cells #[.slice a1 m1 c1, .bool false] 66) := ⟨_, rfl⟩
  have k23 : Below W2.heap.size W2 W3 := by rw [hW3]; exact (Below.refl _ _).alloc (Nat.le_refl _) _
  have HS3 : Hid (SO (w.heap.size + 1) W3 (.slice (some ⟨w1.heap.size, 0, none⟩) 1 1) 1 (BN.bz n) ∧ Cl w.heap.size [.slice a1 m1 c1, .bool false] 66 W3 ∧ LN W3 (.slice a1 m1 c1) (BN.prm (n + 1)) ∧ Below w.heap.size w W3 ∧ w1.heap.size < W3.heap.size) := by
    refine ⟨?_, HL2.out.1.below k23, HL2.out.2.1.below k23, HL2.out.2.2.1.trans (k23.mono HL2.out.2.2.1.size), by rw [hW3, ← hsz]; simp⟩
    rw [hW3, ← hsz]
    exact SO.lit (y := ((BN.prm (n + 1) : Nat) : Int)) HL2.out.2.2.2 (by rw [Int.natAbs_natCast]; exact HL2.out.2.1) (decide_eq_false (by omega)).symm _ (BN.bz_zero n hn)
  have HW23 : Hid (W3 = ((w1.setCell ⟨w.heap.size, 0, none⟩ (.slice a1 m1 c1)).setCell ⟨w.heap.size, 1, none⟩ (.bool false)).alloc (.cells #[.slice a1 m1 c1, .bool false] 66)) := by show _ = _; rw [hW3, hW2]
  clear l1 k1 hC1 hz1 hC2 hL2 hK2 hZ2 p1 p2 HPr HW0 hW3 hW2 k23 hsz
  go_wp2_with fail
  rw [← HW23.out]
  clear q1 q2 q3 q4 HW23
  refine (HCh.out W3).mono ?_
  rintro e w4 ⟨v4, rfl, s4, k4⟩
  have HN4 : Hid (Nb w n 0 (.slice a1 m1 c1) (.slice (some ⟨w1.heap.size, 0, none⟩) 1 1) v4 w4) := by
    refine ⟨HS3.out.1.below k4, s4.va, fun g e => ?_, HS3.out.2.1.below k4, HS3.out.2.2.1.below k4, HS3.out.2.2.2.1.trans (k4.mono HS3.out.2.2.2.1.size)⟩
    obtain ⟨us, hu, _⟩ := s4
    have h1 := (hu.lt g e).1
    have h2 := HS3.out.2.2.2.2
    simp [Value.ownBlock]
    omega
  clear s4 k4 HS3 HCh HL2 HP2
  go_wp2
  go_loopw [2, 4, 12] (fun rv sv iv wx => ∃ (i : Nat) (av cv : Value), i ≤ n ∧ rv = av ∧ sv = cv ∧ iv = .int .i64 (i : Int) ∧ Hid (Nb w n i (.slice a1 m1 c1) av cv wx)) (fun _ _ iv _ => n - (intOf iv).toNat)
  case atStart => exact ⟨0, _, _, Nat.zero_le _, rfl, rfl, rfl, HN4.out⟩
  case round =>
    clear HN4
    obtain ⟨i, av, cv, hin, hav, hcv, rfl, HR⟩ := hrel
    have h2 := hav.symm
    subst h2
    have h2 := hcv.symm
    subst h2
    by_cases hlt : i < n
    · obtain ⟨us, hu, hx⟩ := HR.out.row
      have HU : Hid (wr.ownsRow (w.heap.size + 1) 66 2 av (i + 1) us ∧ SC wr us (i + 1) (BN.bz n)) := ⟨hu, hx⟩
      clear hu hx
      go_wp2_with fail
      refine (oneMore_any _ (i + 1) wr HR.out.chs (by omega)).mono ?_
      rintro e w5 ⟨v5, rfl, s5, k5⟩
      have HN5 : Hid (SO wr.heap.size w5 v5 (i + 1 + 2) (fun j => ((BN.ch (i + 1 + 1) j : Nat) : Int)) ∧ Below wr.heap.size wr w5) := ⟨s5, k5⟩
      have HNx : Hid (Calls Tryz.prog 74 #[av, v5] w5 fun e w' => ∃ v, e = .returned (.agg #[v, .bool (decide (BN.bz n (i + 1) < 0))]) ∧ LN w' v (BN.bz n (i + 1)).natAbs ∧ Below w5.heap.size w5 w') := next_any av v5 n (i + 1) w5 (HR.out.row.below k5).va s5.va (by omega) (by omega) hn
      obtain ⟨z, hz⟩ : ∃ z, z = decide (BN.bz n (i + 1) < 0) := ⟨_, rfl⟩
      rw [← hz] at HNx
      have HZ : Hid (z = decide (BN.bz n (i + 1) < 0)) := hz
      clear s5 k5 hz
      go_wp2_with fail
      refine HNx.out.mono ?_
      rintro e w6 ⟨v6, rfl, l6, k6⟩
      obtain ⟨a6, m6, c6, rfl⟩ := l6.shape
      have k56 : Below wr.heap.size wr (w6.alloc (.cells #[.slice a6 m6 c6, .bool z] 66)) := (HN5.out.2.trans (k6.mono HN5.out.2.size)).alloc (Nat.le_trans HN5.out.2.size k6.size) _
      have k6a : Below w5.heap.size w5 (w6.alloc (.cells #[.slice a6 m6 c6, .bool z] 66)) := k6.alloc k6.size _
      have HR7 : Hid ((w6.alloc (.cells #[.slice a6 m6 c6, .bool z] 66)).ownsRow (w.heap.size + 1) 66 2 av (i + 1) us ∧ SC (w6.alloc (.cells #[.slice a6 m6 c6, .bool z] 66)) us (i + 1) (BN.bz n) ∧ LN (w6.alloc (.cells #[.slice a6 m6 c6, .bool z] 66)) (.slice a6 m6 c6) (BN.bz n (i + 1)).natAbs ∧ SO wr.heap.size (w6.alloc (.cells #[.slice a6 m6 c6, .bool z] 66)) v5 (i + 1 + 2) (fun j => ((BN.ch (i + 1 + 1) j : Nat) : Int)) ∧ Below wr.heap.size wr (w6.alloc (.cells #[.slice a6 m6 c6, .bool z] 66))) :=
        ⟨row_bel2 HU.out.1 k56, HU.out.2.below k56, l6.below ((Below.refl _ _).alloc (Nat.le_refl _) _), HN5.out.1.below k6a, k56⟩
      have HZ6 : Hid (w.heap.size + 1 ≤ w6.heap.size) := by
        have h1 := HR.out.box.lt
        have h2 := HN5.out.2.size
        have h3 := k6.size
        show _ ≤ _
        omega
      clear l6 k6 k56 k6a HNx
      go_wp2_with (at_builtin; refine wpList_append_own_at _ rfl _ _ 61 rfl (w.heap.size + 1) 66 i0 (.agg #[.slice none 0 0, .bool false]) 2 32 Tryz.undS HI.out.1 HI.out.2.1 HI.out.2.2.1 HI.out.2.2.2 rfl (by decide) av (i + 1) us rfl HR7.out.1 ⟨w6.heap.size, 0, none⟩ 1 1 [.slice a6 m6 c6, .bool z] rfl rfl (Cl.new [.slice a6 m6 c6, .bool z] 66 w6).news2 (by simp [Value.oneCell']) (by simp only [maxLen]; omega) (by omega) (by have := HZ6.out; simp; omega) ?_; intro v' w7 hown hgrow _ hob)
      have HN7 : Hid (Nb w n (i + 1) (.slice a1 m1 c1) v' v5 w7) := by
        have hlt : ∀ g, av.ownBlock = some g → w.heap.size + 1 ≤ g ∧ g < wr.heap.size := fun g e => HU.out.1.lt g e
        have h5 : ∀ g, v5.ownBlock = some g → wr.heap.size ≤ g ∧ g < (w6.alloc (.cells #[.slice a6 m6 c6, .bool z] 66)).heap.size := fun g e => by
          obtain ⟨ws, hw, _⟩ := HR7.out.2.2.2.1
          exact hw.lt g e
        have kk := HR7.out.2.2.2.2
        refine ⟨SO.push (y := BN.bz n (i + 1)) HR7.out.1 HR7.out.2.1 HR7.out.2.2.1 HZ.out hown hgrow (fun j _ => rfl) rfl, HR7.out.2.2.2.1.va.grownS HR7.out.1 hgrow (fun g e e2 => ?_), fun g e e2 => ?_, ?_, ?_, ?_⟩
        · have := (h5 g e).1; have := (hlt g e2).2; omega
        · rcases hob with h | h
          · rw [h] at e2
            have := (h5 g e).1; have := (hlt g e2).2; omega
          · rw [h] at e2
            have := (h5 g e).2
            simp at e2
            subst e2
            simp at this
        · exact (HR.out.box.below kk).grown hgrow (fun e => by have := (hlt _ e).1; omega)
        · exact (HR.out.low.below kk).grownS HR7.out.1 hgrow
        · exact (HR.out.k.trans (kk.mono HR.out.k.size)).grown hgrow (Nat.le_trans HR.out.k.size kk.size) (fun g e => by have := (hlt g e).1; omega)
      clear hown hgrow hob
      go_wp2
      go_roundw
      case rel => exact ⟨i + 1, _, _, by omega, rfl, rfl, by go_num, HN7.out⟩
      case measure => simp [intOf]; omega
    · obtain rfl : i = n := by omega
      have hC := HR.out.box
      have HK : Hid (∀ W, Below wr.heap.size wr W → W.cell? ⟨w.heap.size, 0, none⟩ = some (.slice a1 m1 c1) ∧ W.cell? ⟨w.heap.size, 1, none⟩ = some (.bool false)) := fun W k => by
        have h := hC.below k
        have b1 := h.cell 0
        have b2 := h.cell 1
        simp at b1 b2
        exact ⟨b1, b2⟩
      have u1 := hC.cell 0
      have u2 := hC.cell 1
      have u3 := hC.frozen 0
      have u4 := hC.frozen 1
      simp at u1 u2
      have HC : Hid (Cl w.heap.size [.slice a1 m1 c1, .bool false] 66 wr) := hC
      clear hC
      go_wp2
      refine wp_region_G (fun W => W.cell? ⟨w.heap.size, 0, none⟩ = some (.slice a1 m1 c1) ∧ W.cell? ⟨w.heap.size, 1, none⟩ = some (.bool false)) 3 (by kernel_rfl) (HK.out _ (Below.refl _ _).drew) (fun hHeld => ?_)
      refine wpAnyG_take (i := 0) (v := ?v0x1) rfl (by kernel_rfl) (fun _ _ _ h => h) (Or.inl ⟨by rfl, ?y0x1⟩) hHeld ?r0x1
      case y0x1 => (intro wS hSw; obtain ⟨s1, s2⟩ := hSw; go_simp; try with_reducible rfl)
      simp only [Act.put, List.getElem_toArray, List.getElem_cons_zero, List.getElem_cons_succ, List.setIfInBounds_toArray, List.set_cons_zero, List.set_cons_succ]
      refine wpAnyG_take (i := 1) (v := ?v1x2) rfl (by kernel_rfl) (fun _ _ _ h => h) (Or.inl ⟨by rfl, ?y1x2⟩) hHeld ?r1x2
      case y1x2 => (intro wS hSw; obtain ⟨s1, s2⟩ := hSw; go_simp; try with_reducible rfl)
      simp only [Act.put, List.getElem_toArray, List.getElem_cons_zero, List.getElem_cons_succ, List.setIfInBounds_toArray, List.set_cons_zero, List.set_cons_succ]
      refine wpAnyG_take (i := 2) (v := ?v2x3) rfl (by kernel_rfl) (fun _ _ _ h => h) (Or.inl ⟨by rfl, ?y2x3⟩) hHeld ?r2x3
      case y2x3 => (intro wS hSw; obtain ⟨s1, s2⟩ := hSw; go_simp; try with_reducible rfl)
      simp only [Act.put, List.getElem_toArray, List.getElem_cons_zero, List.getElem_cons_succ, List.setIfInBounds_toArray, List.set_cons_zero, List.set_cons_succ]
      refine wpAnyG_last (i := 3) rfl (by kernel_rfl) (by kernel_rfl) (fun K hK => ?_)
      go_simp
      refine hK.out _ _ ?_
      clear hK K
      refine wpAnyG_done (by kernel_rfl) ?_ _
      clear u1 u2 u3 u4 hHeld
      go_wp2
      obtain ⟨WF, hWF⟩ : ∃ WF, WF = ((wr.setCell ⟨w.heap.size, 0, none⟩ (.slice a1 m1 c1)).setCell ⟨w.heap.size, 1, none⟩ (.bool false)).drew := ⟨_, rfl⟩
      have C3 : Cl w.heap.size [.slice a1 m1 c1, .bool false] 66 WF := by rw [hWF]; exact (HC.out.two (.slice a1 m1 c1) (.bool false)).below (Below.refl _ _).drew
      have HF : Hid (SO (w.heap.size + 1) WF av (i + 1) (BN.bz i) ∧ LN WF (.slice a1 m1 c1) (BN.prm (i + 1)) ∧ Below w.heap.size w WF) := by
        show _ ∧ _
        rw [hWF]
        exact ⟨(HR.out.row.setBox (by omega) HC.out).below (Below.refl _ _).drew, (HR.out.low.setTwo HC.out).below (Below.refl _ _).drew, ((HR.out.k.setCell (by simp) _).setCell (by simp) _).drew⟩
      rw [← hWF]
      clear hWF
      have e1 := C3.cell 0
      have e2 := C3.cell 1
      simp at e1 e2
      exact bodyPost_ret (v := .tuple #[av, .agg #[.slice a1 m1 c1, .bool false]]) (by simp [results, Tryz.results36, go_sem, e1, e2]) rfl ⟨_, _, rfl, HF.out.1.low (by omega), HF.out.2.1, HF.out.2.2⟩
end Go.Proofs.YtnkjadpmigpneaaGreatDoor
end

section
set_option linter.unusedSimpArgs false
set_option linter.unusedVariables false
set_option maxRecDepth 100000
namespace Go.Proofs.YtnkjadpmigpneaaGreatDoor
open Go.RowKit LgM
theorem wf_mk {w' : World} {b N : Nat} (h : w'.ownsRow b 66 2 (.slice (some ⟨b, 0, none⟩) N N) N (madeCells #[Value.slice none 0 0, .bool false] (N * 2)).toList) : Wv b N N (fun _ => 0) w' := by
  obtain ⟨cells, h1, h2, h3, _⟩ := (wv_of_mk (fun _ => 0) h).ex
  obtain ⟨h4, h5 | ⟨g, cap, cur, e1, e2, e3, e4, e5, e6, e7⟩⟩ := h
  · obtain ⟨h5, rfl⟩ := h5
    simp at h5
  · simp at e1
    obtain ⟨rfl, rfl⟩ := e1
    have hcc : cells = cur.toList := by
      have := h1.symm.trans e3
      simp at this
      rw [← this]
    have : cells = (madeCells #[Value.slice none 0 0, .bool false] (N * 2)).toList := by
      rw [hcc, ← e7, List.take_of_length_le (by simp; omega)]
    refine ⟨cells, h1, h2, h3, fun j hj => ⟨none, 0, 0, ?_, ?_, LN.zero _⟩⟩
    · rw [this]
      simp [madeCells]
      exact ⟨j * 2, by rw [List.getElem?_range (by omega)], by rw [show j * 2 % 2 = 0 by omega]; rfl⟩
    · rw [this]
      simp [madeCells]
      exact ⟨j * 2 + 1, by rw [List.getElem?_range (by omega)], by rw [show (j * 2 + 1) % 2 = 1 by omega]; rfl⟩
theorem Wv.put {b N i : Nat} {f : Nat → Int} {w : World} (h : Wv b N N f w) (hi : i < N) (sa : Option Addr) (sk sc : Nat) (z : Bool) (y : Int) (hz : z = decide (y < 0)) (hn : LN w (.slice sa sk sc) y.natAbs) (f' : Nat → Int) (e1 : f' i = y) (e2 : ∀ j, j < N → j ≠ i → f' j = f j) :
    Wv b N N f' ((w.setCell ⟨b, i * 2, none⟩ (.slice sa sk sc)).setCell ⟨b, i * 2 + 1, none⟩ (.bool z)) ∧ ∀ v n, LN w v n → LN ((w.setCell ⟨b, i * 2, none⟩ (.slice sa sk sc)).setCell ⟨b, i * 2 + 1, none⟩ (.bool z)) v n := by
  obtain ⟨cells, h1, h2, h3, h4⟩ := h.ex
  have h3' : ∀ u ∈ cells.set (i * 2) (.slice sa sk sc), NI u := fun u hu => by
    rcases List.mem_or_eq_of_mem_set hu with hu | rfl
    · exact h3 u hu
    · exact ni_slice _ _ _
  have hk : ∀ v n, LN w v n → LN ((w.setCell ⟨b, i * 2, none⟩ (.slice sa sk sc)).setCell ⟨b, i * 2 + 1, none⟩ (.bool z)) v n := fun v n hv => (hv.setB h1 h3 _).setB (h1.set (i * 2) (.slice sa sk sc)) h3' _
  refine ⟨⟨(cells.set (i * 2) (.slice sa sk sc)).set (i * 2 + 1) (.bool z), (h1.set _ _).set _ _, by simp [h2], fun u hu => ?_, fun j hj => ?_⟩, hk⟩
  · rcases List.mem_or_eq_of_mem_set hu with hu | rfl
    · exact h3' u hu
    · exact ni_bool _
  · by_cases e : j = i
    · subst e
      rw [e1]
      refine ⟨sa, sk, sc, ?_, ?_, hk _ _ hn⟩
      · rw [List.getElem?_set_ne (by omega), List.getElem?_set_self (by omega)]
      · rw [List.getElem?_set_self (by simp; omega), hz]
    · obtain ⟨ta, tk, tc, c1, c2, c3⟩ := h4 j hj
      rw [e2 j hj e]
      refine ⟨ta, tk, tc, ?_, ?_, hk _ _ c3⟩
      · rw [List.getElem?_set_ne (by omega), List.getElem?_set_ne (by omega)]; exact c1
      · rw [List.getElem?_set_ne (by omega), List.getElem?_set_ne (by omega)]; exact c2
theorem cf_bs {k i : Nat} (hk : k ≤ 60) : (BN.cf k i).natAbs < Bs ^ 45 := by
  unfold BN.cf
  have hb : Bs ^ 8 * Bs ^ 36 < Bs ^ 45 := by decide +kernel
  split
  · exact Nat.pow_pos (by decide)
  · unfold BN.fq
    have h : k + 1 - i ≤ k := by omega
    have h1 := chbz_bs (n := k) (j := k + 1 - i) (k := k + 1) (i := k + 1 - i) h (by omega) (by omega)
    split
    · rw [Int.natAbs_neg]; exact Nat.lt_of_le_of_lt h1 hb
    · exact Nat.lt_of_le_of_lt h1 hb
theorem hz_bs {k n : Nat} (hk : k ≤ 60) (hn : n ≤ 1000000000000000000) : ∀ t, (BN.hz (BN.cf k) (n : Int) (k + 2) t).natAbs < Bs ^ (46 + 3 * t)
  | 0 => by show (0 : Int).natAbs < _; simp; exact Nat.pow_pos (by decide)
  | t + 1 => by
    have h1 := hz_bs hk hn t
    have h2 := cf_bs (k := k) (i := k + 2 - 1 - t) hk
    show (BN.hz (BN.cf k) (n : Int) (k + 2) t * (n : Int) + BN.cf k (k + 2 - 1 - t)).natAbs < _
    have h3 := Int.natAbs_add_le (BN.hz (BN.cf k) (n : Int) (k + 2) t * (n : Int)) (BN.cf k (k + 2 - 1 - t))
    rw [Int.natAbs_mul, Int.natAbs_natCast] at h3
    have h4 : (BN.hz (BN.cf k) (n : Int) (k + 2) t).natAbs * n ≤ Bs ^ (46 + 3 * t) * Bs ^ 2 := Nat.mul_le_mul (Nat.le_of_lt h1) (Nat.le_trans hn (by decide +kernel))
    have h5 : Bs ^ 45 ≤ Bs ^ (46 + 3 * t) := Nat.pow_le_pow_right (by decide) (by omega)
    have h6 : Bs ^ (46 + 3 * (t + 1)) = Bs ^ (46 + 3 * t) * Bs ^ 3 := by rw [show 46 + 3 * (t + 1) = 46 + 3 * t + 3 by omega, Nat.pow_add]
    rw [h6]
    have h7 : Bs ^ 2 + 1 ≤ Bs ^ 3 := by decide +kernel
    have h8 := Nat.mul_le_mul_left (Bs ^ (46 + 3 * t)) h7
    rw [Nat.mul_add, Nat.mul_one] at h8
    have h9 : 0 < Bs ^ 45 := Nat.pow_pos (by decide)
    omega
theorem below_bs {k : Nat} (hk : k ≤ 60) : BN.prm (k + 1) * (k + 1) < Bs ^ 13 := by
  have h1 := prm_bs (n := k + 1) (by omega)
  have h2 : BN.prm (k + 1) * (k + 1) ≤ Bs ^ 12 * (k + 1) := Nat.mul_le_mul_right _ (Nat.le_of_lt h1)
  have h3 : Bs ^ 12 * (k + 1) ≤ Bs ^ 12 * 61 := Nat.mul_le_mul_left _ (by omega)
  have h4 : Bs ^ 12 * 61 < Bs ^ 13 := by decide +kernel
  omega
end Go.Proofs.YtnkjadpmigpneaaGreatDoor
end
