/- The reference's Walked: down the tree with numbers of any length. -/
import Derived.Test.YtcnfhndejkngkaaGreatDoorJtA
import Derived.Test.YtcnfhndejkngkaaGreatDoorBigG
import Derived.Test.YtcnfhndejkngkaaGreatDoorJtH
import Derived.Test.YtcnfhndejkngkaaGreatDoorJtL
import Derived.Deep.LoopGhost
set_option linter.unusedSimpArgs false
set_option linter.unusedVariables false
set_option maxRecDepth 100000
namespace Go.Proofs.YtcnfhndejkngkaaGreatDoor
open Go.RowKit

/-- The four numbers of the way. -/
structure Wk (w W : World) (pa pb pc pd : Nat) (s : ST.Q) : Prop where
  a : BigAt W pa (s.a : Int)
  b : BigAt W pb (s.b : Int)
  c : BigAt W pc (s.c : Int)
  d : BigAt W pd (s.d : Int)
  k : Below w.heap.size w W
  la : w.heap.size ≤ pa
  lb : w.heap.size ≤ pb
  n1 : pa ≠ pb
  n2 : pa ≠ pd
theorem Wk.below {w W W' : World} {pa pb pc pd : Nat} {s : ST.Q} (h : Wk w W pa pb pc pd s) (k : Below W.heap.size W W') : Wk w W' pa pb pc pd s :=
  ⟨h.a.below k (Nat.le_refl _), h.b.below k (Nat.le_refl _), h.c.below k (Nat.le_refl _), h.d.below k (Nat.le_refl _), h.k.trans (k.mono h.k.size), h.la, h.lb, h.n1, h.n2⟩
theorem made_sum {w w' : World} {x : Int} (hb : BigAt w' w.heap.size x) (u : Upd w.heap.size (w.alloc (.cells #[.bool false, .slice none 0 0] 55)) w') : Made w w' w.heap.size x :=
  ⟨Nat.le_refl _, hb, (Below.alloc_self' w _).trans (u.below (by simp) (Nat.le_refl _))⟩
theorem wk_pw {n : Nat} (h : n ≤ 3000000000000000000) : ((n : Nat) : Int).natAbs < pw 3 := Nat.lt_of_le_of_lt (show ((n : Nat) : Int).natAbs ≤ 3000000000000000000 by omega) (by decide +kernel)
theorem wk_pw2 {m n : Nat} (h : m ≤ 3000000000000000000) (h2 : n ≤ 3000000000000000000) : (((m : Nat) : Int) + ((n : Nat) : Int)).natAbs < pw 3 := Nat.lt_of_le_of_lt (show (((m : Nat) : Int) + ((n : Nat) : Int)).natAbs ≤ 6000000000000000000 by omega) (by decide +kernel)
theorem cmp_far {m n : Nat} (h : 1000000000000000000 < m + n) : decide (0 < cmpZ ((m : Int) + (n : Int)) 1000000000000000000) = true := by
  unfold cmpZ
  rw [if_neg (by omega), if_pos (by omega)]
  rfl
theorem cmp_near {m n : Nat} (h : m + n ≤ 1000000000000000000) : decide (0 < cmpZ ((m : Int) + (n : Int)) 1000000000000000000) = false := by
  unfold cmpZ
  split
  · rfl
  · rw [if_neg (by omega)]; rfl
/-- The way is not too far behind j + 1 steps. -/
def near (l : List Bool) (j : Nat) : Prop := (ST.nd (l.take (j + 1))).1 ≤ 1000000000000000000 ∧ (ST.nd (l.take (j + 1))).2 ≤ 1000000000000000000
def pathS (l : List Bool) : ByteArray := ⟨(l.map fun r => if r then (82 : UInt8) else 76).toArray⟩
/-- What Walked answers. -/
def WkOut (w w' : World) (l : List Bool) (e : Ending) : Prop :=
  ((∃ i, i < l.length ∧ (∀ j, j < i → near l j) ∧ ¬ near l i ∧ e = .returned (.tuple #[.pointer none, .pointer none, .int .i64 (i : Int)])) ∨
   ((∀ j, j < l.length → near l j) ∧ ∃ pa pb, e = .returned (.tuple #[.pointer (some ⟨pa, 0, none⟩), .pointer (some ⟨pb, 0, none⟩), .int .i64 (-1)]) ∧ BigAt w' pa ((ST.nd l).1 : Int) ∧ BigAt w' pb ((ST.nd l).2 : Int))) ∧ Below w.heap.size w w'

set_option maxRecDepth 100000 in
set_option maxHeartbeats 4000000 in
theorem Walked_any (l : List Bool) (w : World) (hl : l.length ≤ 100000000) :
    Calls Tryz.prog 19 #[.string (pathS l)] w fun e w' => WkOut w w' l e := by
  obtain ⟨S, hS⟩ : ∃ S, S = pathS l := ⟨_, rfl⟩
  obtain ⟨n, hn⟩ : ∃ n, n = l.length := ⟨_, rfl⟩
  have hsz : S.size = n := by rw [hS, hn]; unfold pathS; simp [ByteArray.size]
  have HX : Hid (∀ (i : Nat) (h : i < S.size) (h2 : i < l.length), (((S[i]'h).toNat : Nat) : Int) = if l[i]'h2 then 82 else 76) := fun i h h2 => by
    have : S[i]'h = if l[i]'h2 then (82 : UInt8) else 76 := by
      subst hS
      show (pathS l).data[i]'_ = _
      unfold pathS
      exact (List.getElem_toArray _).trans (List.getElem_map _)
    rw [this]
    split <;> rfl
  have HNl : Hid (n = l.length ∧ n ≤ 100000000) := ⟨hn, by omega⟩
  rw [← hS]
  clear hS hl hn
  go_enter Tryz.func19, Tryz.ntmps19
  go_wp2_with fail
  refine (B_any 0 _ (by omega) (by omega)).mono ?_
  rintro e w1 ⟨pa, rfl, m1⟩
  go_wp2_with fail
  refine (B_any 1 _ (by omega) (by omega)).mono ?_
  rintro e w2 ⟨pb, rfl, m2⟩
  go_wp2_with fail
  refine (B_any 1 _ (by omega) (by omega)).mono ?_
  rintro e w3 ⟨pc, rfl, m3⟩
  go_wp2_with fail
  refine (B_any 0 _ (by omega) (by omega)).mono ?_
  rintro e w4 ⟨pd, rfl, m4⟩
  have HW : Hid (Wk w w4 pa pb pc pd (ST.q0.run (l.take 0))) := by
    have l1 := m1.2.1.lt
    have l2 := m2.2.1.lt
    have l3 := m3.2.1.lt
    have s1 := m1.2.2.size
    have s2 := m2.2.2.size
    have s3 := m3.2.2.size
    have g2 := m2.1
    have g4 := m4.1
    have g1 := m1.1
    exact ⟨((m1.2.1.below m2.2.2 (Nat.le_refl _)).below m3.2.2 (Nat.le_refl _)).below m4.2.2 (Nat.le_refl _), (m2.2.1.below m3.2.2 (Nat.le_refl _)).below m4.2.2 (Nat.le_refl _), m3.2.1.below m4.2.2 (Nat.le_refl _), m4.2.1, ((m1.2.2.trans (m2.2.2.mono s1)).trans (m3.2.2.mono (Nat.le_trans s1 s2))).trans (m4.2.2.mono (Nat.le_trans (Nat.le_trans s1 s2) s3)), g1, Nat.le_trans s1 g2, by omega, by omega⟩
  clear m1 m2 m3 m4
  go_wp2
  go_loopg [5, 6, 7, 8, 9] n (fun gk av bv cv dv iv wx => ∃ (pa pb pc pd i : Nat), av = .pointer (some ⟨pa, 0, none⟩) ∧ bv = .pointer (some ⟨pb, 0, none⟩) ∧ cv = .pointer (some ⟨pc, 0, none⟩) ∧ dv = .pointer (some ⟨pd, 0, none⟩) ∧ iv = .int .i64 (i : Int) ∧ Hid (gk = n - i ∧ i ≤ n ∧ (∀ j, j < i → near l j) ∧ Wk w wx pa pb pc pd (ST.q0.run (l.take i))))
  case atStart => exact ⟨pa, pb, pc, pd, 0, rfl, rfl, rfl, rfl, rfl, rfl, by omega, fun j hj => by omega, HW.out⟩
  case round =>
    clear HW
    obtain ⟨pa, pb, pc, pd, i, rfl, rfl, rfl, rfl, rfl, HR⟩ := hrel
    obtain ⟨h1, h2, h3, h4⟩ := HR.out
    have HK : Hid (gk = n - i) := h1
    clear HR h1
    obtain ⟨T, hT⟩ : ∃ T, T = ST.q0.run (l.take i) := ⟨_, rfl⟩
    rw [← hT] at h4
    have HTe : Hid (T = ST.q0.run (l.take i)) := hT
    have HW : Hid (Wk w wr pa pb pc pd T) := h4
    clear hT h4
    by_cases hi : i < n
    · have ti : decide ((i : Int) < (n : Int)) = true := decide_eq_true (by omega)
      have HI : Hid (i < n ∧ n = l.length ∧ ∀ j, j < i → near l j) := ⟨hi, HNl.out.1, h3⟩
      clear h3
      have HT1 : Hid (T.a + T.c ≤ 1000000000000000000 ∧ T.b + T.d ≤ 1000000000000000000) := by
        have h := ST.run_q0 (l.take i)
        rw [← HTe.out] at h
        show _ ∧ _
        rw [h.1, h.2]
        rcases Nat.eq_zero_or_pos i with e | e
        · subst e; rw [List.take_zero]; exact ⟨by decide, by decide⟩
        · have := HI.out.2.2 (i - 1) (by omega)
          unfold near at this
          rw [show i - 1 + 1 = i by omega] at this
          exact this
      have tz := HX.out i (by rw [hsz]; exact hi) (by rw [← HI.out.2.1]; exact hi)
      have xi : (i : Int) < (n : Int) := by omega
      have xi2 : i < S.size := by omega
      obtain ⟨rb, hrb⟩ : ∃ r, r = l[i]'(by rw [← HI.out.2.1]; exact hi) := ⟨_, rfl⟩
      rw [← hrb] at tz
      have HRb : Hid (∃ h : i < l.length, rb = l[i]'h) := ⟨by rw [← HI.out.2.1]; exact hi, hrb⟩
      have hn8 := HNl.out.2
      clear hrb HNl
      have HTk : Hid (ST.q0.run (l.take (i + 1)) = T.step rb) := by
        obtain ⟨h, e⟩ := HRb.out
        show _ = _
        rw [List.take_succ_eq_append_getElem h, ST.run_more, ← HTe.out, e]
      have HN : Hid (near l i ↔ ((T.step rb).a + (T.step rb).c ≤ 1000000000000000000 ∧ (T.step rb).b + (T.step rb).d ≤ 1000000000000000000)) := by
        have h5 := ST.run_q0 (l.take (i + 1))
        rw [HTk.out] at h5
        show _ ↔ _
        rw [h5.1, h5.2]
        exact Iff.rfl
      have HN2 : Hid (ST.q0.run (l.take (i + 1)) = T.step rb) := HTk.out
      have HT2 : Hid ((T.step rb).a ≤ 3000000000000000000 ∧ (T.step rb).b ≤ 3000000000000000000 ∧ (T.step rb).c ≤ 3000000000000000000 ∧ (T.step rb).d ≤ 3000000000000000000) := by
        have h5 := HT1.out
        show _ ∧ _
        unfold ST.Q.step
        cases rb
        · show T.a ≤ _ ∧ T.b ≤ _ ∧ T.a + T.c ≤ _ ∧ T.b + T.d ≤ _
          omega
        · show T.a + T.c ≤ _ ∧ T.b + T.d ≤ _ ∧ T.c ≤ _ ∧ T.d ≤ _
          omega
      have HTb : Hid (T.a ≤ 3000000000000000000 ∧ T.b ≤ 3000000000000000000 ∧ T.c ≤ 3000000000000000000 ∧ T.d ≤ 3000000000000000000) := by
        have h5 := HT1.out
        exact ⟨by omega, by omega, by omega, by omega⟩
      clear HTk HRb
      go_wp2_with fail
      refine (Add_any wr.heap.size pa pc _ _ 3 3 _ (slot_new wr _ _) (HW.out.a.below (Below.alloc_self' wr _) (Nat.le_refl _)) (HW.out.c.below (Below.alloc_self' wr _) (Nat.le_refl _)) (wk_pw HTb.out.1) (wk_pw HTb.out.2.2.1) (by omega) (by omega)).mono ?_
      rintro e w5 ⟨rfl, hb5, u5⟩
      have m5 := made_sum hb5 u5
      obtain ⟨px, hpx⟩ : ∃ b, b = wr.heap.size := ⟨_, rfl⟩
      rw [← hpx] at m5 ⊢
      have H5 : Hid (Wk w w5 pa pb pc pd T ∧ BigAt w5 px ((T.a : Int) + (T.c : Int)) ∧ w.heap.size ≤ px ∧ pd < px) := ⟨HW.out.below m5.2.2, m5.2.1, by rw [hpx]; exact HW.out.k.size, by rw [hpx]; exact HW.out.d.lt⟩
      clear hb5 u5 m5 HW hpx
      go_wp2_with fail
      refine (Add_any w5.heap.size pb pd _ _ 3 3 _ (slot_new w5 _ _) (H5.out.1.b.below (Below.alloc_self' w5 _) (Nat.le_refl _)) (H5.out.1.d.below (Below.alloc_self' w5 _) (Nat.le_refl _)) (wk_pw HTb.out.2.1) (wk_pw HTb.out.2.2.2) (by omega) (by omega)).mono ?_
      rintro e w6 ⟨rfl, hb6, u6⟩
      have m6 := made_sum hb6 u6
      obtain ⟨py, hpy⟩ : ∃ b, b = w5.heap.size := ⟨_, rfl⟩
      rw [← hpy] at m6 ⊢
      have H6 : Hid (Wk w w6 pa pb pc pd T ∧ BigAt w6 px (((T.a + T.c : Nat)) : Int) ∧ BigAt w6 py (((T.b + T.d : Nat)) : Int) ∧ w.heap.size ≤ px ∧ w.heap.size ≤ py ∧ pd < px ∧ px < py ∧ pa < py) := by
        have g1 := H5.out.1.a.lt
        have g2 := H5.out.2.1.lt
        have g3 := H5.out.1.k.size
        exact ⟨H5.out.1.below m6.2.2, by rw [Int.natCast_add]; exact H5.out.2.1.below m6.2.2 (Nat.le_refl _), by rw [Int.natCast_add]; exact m6.2.1, H5.out.2.2.1, by omega, H5.out.2.2.2, by omega, by omega⟩
      clear hb6 u6 m6 H5 hpy HTb HT1 HTe HX
      cases rb with
      | false =>
        have tz2 : ∀ h : i < S.size, (((S[i]'h).toNat : Nat) : Int) = 76 := fun _ => tz
        clear tz
        have HWN : Hid (Wk w w6 pa pb px py (T.step false)) := ⟨H6.out.1.a, H6.out.1.b, H6.out.2.1, H6.out.2.2.1, H6.out.1.k, H6.out.1.la, H6.out.1.lb, H6.out.1.n1, by have := H6.out.2.2.2.2.2.2.2; omega⟩
        clear H6
        go_wp2_with fail
        refine (B_any 1000000000000000000 _ (by omega) (by omega)).mono ?_
        rintro e w7 ⟨bm, rfl, m7⟩
        have H7 : Hid (Wk w w7 pa pb px py (T.step false) ∧ BigAt w7 bm 1000000000000000000) := ⟨HWN.out.below m7.2.2, m7.2.1⟩
        clear m7 HWN
        go_wp2_with fail
        refine (Add_any w7.heap.size pa px _ _ 3 3 _ (slot_new w7 _ _) ((H7.out.1.a.below (Below.alloc_self' w7 _) (Nat.le_refl _))) ((H7.out.1.c.below (Below.alloc_self' w7 _) (Nat.le_refl _))) (wk_pw HT2.out.1) (wk_pw HT2.out.2.2.1) (by omega) (by omega)).mono ?_
        rintro e w8 ⟨rfl, hb8, u8⟩
        have m8 := made_sum hb8 u8
        have H8 : Hid (Wk w w8 pa pb px py (T.step false) ∧ BigAt w8 bm 1000000000000000000 ∧ BigAt w8 w7.heap.size (((T.step false).a : Int) + ((T.step false).c : Int))) := ⟨H7.out.1.below m8.2.2, H7.out.2.below m8.2.2 (Nat.le_refl _), m8.2.1⟩
        clear hb8 u8 m8 H7
        go_wp2_with fail
        refine (Cmp_any w7.heap.size bm _ _ 3 3 w8 H8.out.2.2 H8.out.2.1 (wk_pw2 HT2.out.1 HT2.out.2.2.1) (by decide +kernel) (by omega) (by omega)).mono ?_
        rintro e w9 ⟨rfl, q9, hq9⟩
        have H9 : Hid (Wk w w9 pa pb px py (T.step false) ∧ BigAt w9 bm 1000000000000000000) := by
          have k : Below w8.heap.size w8 w9 := by rw [hq9]; exact below_drewN' (Below.refl _ _)
          exact ⟨H8.out.1.below k, H8.out.2.1.below k (Nat.le_refl _)⟩
        clear hq9 H8
        by_cases hf1 : 1000000000000000000 < (T.step false).a + (T.step false).c
        · have t1 : decide (0 < cmpZ (((T.step false).a : Int) + ((T.step false).c : Int)) 1000000000000000000) = true := cmp_far hf1
          have HF : Hid (1000000000000000000 < (T.step false).a + (T.step false).c) := hf1
          clear hf1
          go_wp2
          exact bodyPost_ret (v := .tuple #[.pointer none, .pointer none, .int .i64 (i : Int)]) (by simp [results, Tryz.results19, go_sem]) rfl ⟨.inl ⟨i, (by rw [← HI.out.2.1]; exact HI.out.1), HI.out.2.2, (fun h => by have := HF.out; have := (HN.out.1 h).1; omega), rfl⟩, H9.out.1.k⟩
        · have t1 : decide (0 < cmpZ (((T.step false).a : Int) + ((T.step false).c : Int)) 1000000000000000000) = false := cmp_near (by omega)
          have HF : Hid ((T.step false).a + (T.step false).c ≤ 1000000000000000000) := by show _ ≤ _; omega
          clear hf1
          go_wp2_with fail
          refine (Add_any w9.heap.size pb py _ _ 3 3 _ (slot_new w9 _ _) ((H9.out.1.b.below (Below.alloc_self' w9 _) (Nat.le_refl _))) ((H9.out.1.d.below (Below.alloc_self' w9 _) (Nat.le_refl _))) (wk_pw HT2.out.2.1) (wk_pw HT2.out.2.2.2) (by omega) (by omega)).mono ?_
          rintro e w10 ⟨rfl, hb10, u10⟩
          have m10 := made_sum hb10 u10
          have H10 : Hid (Wk w w10 pa pb px py (T.step false) ∧ BigAt w10 bm 1000000000000000000 ∧ BigAt w10 w9.heap.size (((T.step false).b : Int) + ((T.step false).d : Int))) := ⟨H9.out.1.below m10.2.2, H9.out.2.below m10.2.2 (Nat.le_refl _), m10.2.1⟩
          clear hb10 u10 m10 H9
          go_wp2_with fail
          refine (Cmp_any w9.heap.size bm _ _ 3 3 w10 H10.out.2.2 H10.out.2.1 (wk_pw2 HT2.out.2.1 HT2.out.2.2.2) (by decide +kernel) (by omega) (by omega)).mono ?_
          rintro e w11 ⟨rfl, q11, hq11⟩
          have H11 : Hid (Wk w w11 pa pb px py (T.step false)) := by
            have k : Below w10.heap.size w10 w11 := by rw [hq11]; exact below_drewN' (Below.refl _ _)
            exact H10.out.1.below k
          clear hq11 H10
          by_cases hf2 : 1000000000000000000 < (T.step false).b + (T.step false).d
          · have t2 : decide (0 < cmpZ (((T.step false).b : Int) + ((T.step false).d : Int)) 1000000000000000000) = true := cmp_far hf2
            have HF2 : Hid (1000000000000000000 < (T.step false).b + (T.step false).d) := hf2
            clear hf2
            go_wp2
            exact bodyPost_ret (v := .tuple #[.pointer none, .pointer none, .int .i64 (i : Int)]) (by simp [results, Tryz.results19, go_sem]) rfl ⟨.inl ⟨i, (by rw [← HI.out.2.1]; exact HI.out.1), HI.out.2.2, (fun h => by have := HF2.out; have := (HN.out.1 h).2; omega), rfl⟩, H11.out.k⟩
          · have t2 : decide (0 < cmpZ (((T.step false).b : Int) + ((T.step false).d : Int)) 1000000000000000000) = false := cmp_near (by omega)
            have HF2 : Hid ((T.step false).b + (T.step false).d ≤ 1000000000000000000) := by show _ ≤ _; omega
            clear hf2
            go_wp2
            go_roundg (n - (i + 1))
            case rel => exact ⟨_, _, _, _, i + 1, rfl, rfl, rfl, rfl, by go_num, rfl, by have := HI.out.1; omega, fun j hj => (by
              by_cases e : j = i
              · subst e; exact HN.out.2 ⟨HF.out, HF2.out⟩
              · exact HI.out.2.2 j (by omega)), by rw [HN2.out]; exact H11.out⟩
            case measure => have := HK.out; have := HI.out.1; omega
      | true =>
        have tz2 : ∀ h : i < S.size, (((S[i]'h).toNat : Nat) : Int) = 82 := fun _ => tz
        clear tz
        have HWN : Hid (Wk w w6 px py pc pd (T.step true)) := ⟨H6.out.2.1, H6.out.2.2.1, H6.out.1.c, H6.out.1.d, H6.out.1.k, H6.out.2.2.2.1, H6.out.2.2.2.2.1, by have := H6.out.2.2.2.2.2.2.1; omega, by have := H6.out.2.2.2.2.2.1; omega⟩
        clear H6
        go_wp2_with fail
        refine (B_any 1000000000000000000 _ (by omega) (by omega)).mono ?_
        rintro e w7 ⟨bm, rfl, m7⟩
        have H7 : Hid (Wk w w7 px py pc pd (T.step true) ∧ BigAt w7 bm 1000000000000000000) := ⟨HWN.out.below m7.2.2, m7.2.1⟩
        clear m7 HWN
        go_wp2_with fail
        refine (Add_any w7.heap.size px pc _ _ 3 3 _ (slot_new w7 _ _) ((H7.out.1.a.below (Below.alloc_self' w7 _) (Nat.le_refl _))) ((H7.out.1.c.below (Below.alloc_self' w7 _) (Nat.le_refl _))) (wk_pw HT2.out.1) (wk_pw HT2.out.2.2.1) (by omega) (by omega)).mono ?_
        rintro e w8 ⟨rfl, hb8, u8⟩
        have m8 := made_sum hb8 u8
        have H8 : Hid (Wk w w8 px py pc pd (T.step true) ∧ BigAt w8 bm 1000000000000000000 ∧ BigAt w8 w7.heap.size (((T.step true).a : Int) + ((T.step true).c : Int))) := ⟨H7.out.1.below m8.2.2, H7.out.2.below m8.2.2 (Nat.le_refl _), m8.2.1⟩
        clear hb8 u8 m8 H7
        go_wp2_with fail
        refine (Cmp_any w7.heap.size bm _ _ 3 3 w8 H8.out.2.2 H8.out.2.1 (wk_pw2 HT2.out.1 HT2.out.2.2.1) (by decide +kernel) (by omega) (by omega)).mono ?_
        rintro e w9 ⟨rfl, q9, hq9⟩
        have H9 : Hid (Wk w w9 px py pc pd (T.step true) ∧ BigAt w9 bm 1000000000000000000) := by
          have k : Below w8.heap.size w8 w9 := by rw [hq9]; exact below_drewN' (Below.refl _ _)
          exact ⟨H8.out.1.below k, H8.out.2.1.below k (Nat.le_refl _)⟩
        clear hq9 H8
        by_cases hf1 : 1000000000000000000 < (T.step true).a + (T.step true).c
        · have t1 : decide (0 < cmpZ (((T.step true).a : Int) + ((T.step true).c : Int)) 1000000000000000000) = true := cmp_far hf1
          have HF : Hid (1000000000000000000 < (T.step true).a + (T.step true).c) := hf1
          clear hf1
          go_wp2
          exact bodyPost_ret (v := .tuple #[.pointer none, .pointer none, .int .i64 (i : Int)]) (by simp [results, Tryz.results19, go_sem]) rfl ⟨.inl ⟨i, (by rw [← HI.out.2.1]; exact HI.out.1), HI.out.2.2, (fun h => by have := HF.out; have := (HN.out.1 h).1; omega), rfl⟩, H9.out.1.k⟩
        · have t1 : decide (0 < cmpZ (((T.step true).a : Int) + ((T.step true).c : Int)) 1000000000000000000) = false := cmp_near (by omega)
          have HF : Hid ((T.step true).a + (T.step true).c ≤ 1000000000000000000) := by show _ ≤ _; omega
          clear hf1
          go_wp2_with fail
          refine (Add_any w9.heap.size py pd _ _ 3 3 _ (slot_new w9 _ _) ((H9.out.1.b.below (Below.alloc_self' w9 _) (Nat.le_refl _))) ((H9.out.1.d.below (Below.alloc_self' w9 _) (Nat.le_refl _))) (wk_pw HT2.out.2.1) (wk_pw HT2.out.2.2.2) (by omega) (by omega)).mono ?_
          rintro e w10 ⟨rfl, hb10, u10⟩
          have m10 := made_sum hb10 u10
          have H10 : Hid (Wk w w10 px py pc pd (T.step true) ∧ BigAt w10 bm 1000000000000000000 ∧ BigAt w10 w9.heap.size (((T.step true).b : Int) + ((T.step true).d : Int))) := ⟨H9.out.1.below m10.2.2, H9.out.2.below m10.2.2 (Nat.le_refl _), m10.2.1⟩
          clear hb10 u10 m10 H9
          go_wp2_with fail
          refine (Cmp_any w9.heap.size bm _ _ 3 3 w10 H10.out.2.2 H10.out.2.1 (wk_pw2 HT2.out.2.1 HT2.out.2.2.2) (by decide +kernel) (by omega) (by omega)).mono ?_
          rintro e w11 ⟨rfl, q11, hq11⟩
          have H11 : Hid (Wk w w11 px py pc pd (T.step true)) := by
            have k : Below w10.heap.size w10 w11 := by rw [hq11]; exact below_drewN' (Below.refl _ _)
            exact H10.out.1.below k
          clear hq11 H10
          by_cases hf2 : 1000000000000000000 < (T.step true).b + (T.step true).d
          · have t2 : decide (0 < cmpZ (((T.step true).b : Int) + ((T.step true).d : Int)) 1000000000000000000) = true := cmp_far hf2
            have HF2 : Hid (1000000000000000000 < (T.step true).b + (T.step true).d) := hf2
            clear hf2
            go_wp2
            exact bodyPost_ret (v := .tuple #[.pointer none, .pointer none, .int .i64 (i : Int)]) (by simp [results, Tryz.results19, go_sem]) rfl ⟨.inl ⟨i, (by rw [← HI.out.2.1]; exact HI.out.1), HI.out.2.2, (fun h => by have := HF2.out; have := (HN.out.1 h).2; omega), rfl⟩, H11.out.k⟩
          · have t2 : decide (0 < cmpZ (((T.step true).b : Int) + ((T.step true).d : Int)) 1000000000000000000) = false := cmp_near (by omega)
            have HF2 : Hid ((T.step true).b + (T.step true).d ≤ 1000000000000000000) := by show _ ≤ _; omega
            clear hf2
            go_wp2
            go_roundg (n - (i + 1))
            case rel => exact ⟨_, _, _, _, i + 1, rfl, rfl, rfl, rfl, by go_num, rfl, by have := HI.out.1; omega, fun j hj => (by
              by_cases e : j = i
              · subst e; exact HN.out.2 ⟨HF.out, HF2.out⟩
              · exact HI.out.2.2 j (by omega)), by rw [HN2.out]; exact H11.out⟩
            case measure => have := HK.out; have := HI.out.1; omega
    · have ti : decide ((i : Int) < (n : Int)) = false := decide_eq_false (by omega)
      obtain rfl : i = n := by omega
      have HL : Hid (T.a + T.c = (ST.nd l).1 ∧ T.b + T.d = (ST.nd l).2 ∧ ∀ j, j < l.length → near l j) := by
        have h := ST.run_q0 l
        have e : l.take i = l := List.take_of_length_le (by rw [← HNl.out.1]; exact Nat.le_refl _)
        rw [← e, ← HTe.out, e] at h
        exact ⟨h.1, h.2, by rw [← HNl.out.1]; exact h3⟩
      have HTb : Hid (T.a ≤ 3000000000000000000 ∧ T.b ≤ 3000000000000000000 ∧ T.c ≤ 3000000000000000000 ∧ T.d ≤ 3000000000000000000) := by
        have h1 := HL.out.1
        have h2 := HL.out.2.1
        have h4 := HL.out.2.2
        rcases Nat.eq_zero_or_pos i with e | e
        · have e2 : l = [] := List.length_eq_zero_iff.1 (by rw [← HNl.out.1]; exact e)
          rw [e2] at h1 h2
          have h1 : T.a + T.c = 1 := h1
          have h2 : T.b + T.d = 1 := h2
          exact ⟨by omega, by omega, by omega, by omega⟩
        · have h5 := h4 (i - 1) (by rw [← HNl.out.1]; omega)
          unfold near at h5
          rw [show i - 1 + 1 = i by omega, List.take_of_length_le (by rw [← HNl.out.1]; exact Nat.le_refl _)] at h5
          exact ⟨by omega, by omega, by omega, by omega⟩
      clear h3 HX HTe
      go_wp2_with fail
      refine (Add_any pa pa pc _ _ 3 3 wr HW.out.a.slot HW.out.a HW.out.c (wk_pw HTb.out.1) (wk_pw HTb.out.2.2.1) (by omega) (by omega)).mono ?_
      rintro e w5 ⟨rfl, hb5, u5⟩
      have H5 : Hid (BigAt w5 pa ((T.a : Int) + (T.c : Int)) ∧ BigAt w5 pb (T.b : Int) ∧ BigAt w5 pd (T.d : Int) ∧ Below w.heap.size w w5 ∧ w.heap.size ≤ pb ∧ pa ≠ pb) := ⟨hb5, HW.out.b.upd u5 HW.out.a.slot (Ne.symm HW.out.n1), HW.out.d.upd u5 HW.out.a.slot (Ne.symm HW.out.n2), HW.out.k.trans (u5.below HW.out.k.size HW.out.la), HW.out.lb, HW.out.n1⟩
      clear hb5 u5 HW
      go_wp2_with fail
      refine (Add_any pb pb pd _ _ 3 3 w5 H5.out.2.1.slot H5.out.2.1 H5.out.2.2.1 (wk_pw HTb.out.2.1) (wk_pw HTb.out.2.2.2) (by omega) (by omega)).mono ?_
      rintro e w6 ⟨rfl, hb6, u6⟩
      have H6 : Hid (BigAt w6 pa ((ST.nd l).1 : Int) ∧ BigAt w6 pb ((ST.nd l).2 : Int) ∧ Below w.heap.size w w6) := ⟨by rw [← HL.out.1, Int.natCast_add]; exact H5.out.1.upd u6 H5.out.2.1.slot H5.out.2.2.2.2.2, by rw [← HL.out.2.1, Int.natCast_add]; exact hb6, H5.out.2.2.2.1.trans (u6.below H5.out.2.2.2.1.size H5.out.2.2.2.2.1)⟩
      clear hb6 u6 H5
      go_wp2
      exact bodyPost_ret (v := .tuple #[.pointer (some ⟨pa, 0, none⟩), .pointer (some ⟨pb, 0, none⟩), .int .i64 (-1)]) (by simp [results, Tryz.results19, go_sem]) rfl ⟨.inr ⟨HL.out.2.2, pa, pb, rfl, H6.out.1, H6.out.2.1⟩, H6.out.2.2⟩
end Go.Proofs.YtcnfhndejkngkaaGreatDoor
