import Derived.Test.YtmifenflbaohnaaDoorPuD
section
/- The program: odd, apart. -/
set_option linter.unusedSimpArgs false
set_option linter.unusedVariables false
set_option maxRecDepth 100000
namespace Go.Proofs.YtmifenflbaohnaaDoor
open Go.RowKit Go.Maps Go.Sort

theorem rg_below {w w' : World} (h : Below w.heap.size w w') : w.grownBy w' none := ⟨h.os, h.tape, h.output, h.size, fun k hk _ => h.block k hk⟩
theorem row_keptB {w w' : World} {base : Nat} {e : TypeId} {size : Nat} {v : Value} {n : Nat} {xs : List Value} (h : w.ownsRow base e size v n xs) (k : Below w.heap.size w w') : w'.ownsRow base e size v n xs :=
  h.kept (rg_below k) (by rcases v.ownBlock with _ | _ <;> simp)
theorem row_low {w : World} {base b : Nat} {e : TypeId} {size : Nat} {v : Value} {n : Nat} {xs : List Value} (h : w.ownsRow base e size v n xs) (hb : b < base) : some b ≠ v.ownBlock := fun e => by
  have := (h.lt b e.symm).1
  omega
/-- What is there of each odd number, while the map is gone through: left are the keys to come. -/
def Gone (left : Lit → Bool) (f : Int → Nat) (l : List Int) : Prop := ∀ n : Int, f n = if left (.int .i64 n) = true then 0 else PT.wsum l n
theorem Gone.start {E : DataW Unit} {l : List Int} (h : Tm E l) {f : Int → Nat} (hf : ∀ n, f n = 0) : Gone (Maps.has E) f l := fun n => by
  rw [hf n]
  by_cases e : Maps.has E (.int .i64 n) = true
  · rw [if_pos e]
  · rw [if_neg e]
    rcases Nat.eq_zero_or_pos (PT.wsum l n) with h0 | h0
    · exact h0.symm
    · exact absurd ((h n).1 h0).1 e
theorem Gone.step {left : Lit → Bool} {f g : Int → Nat} {l : List Int} (h : Gone left f l) {x : Int} (hx : left (.int .i64 x) = true) (h1 : g x = PT.wsum l x) (h2 : ∀ n, n ≠ x → g n = f n) : Gone (fun z => left z && !z.sameKey (.int .i64 x)) g l := fun n => by
  by_cases e : n = x
  · subst e
    rw [if_neg (by simp [Lit.sameKey]), h1]
  · have hs : (Lit.int .i64 n).sameKey (.int .i64 x) = false := sameKey_ne (by intro q; injection q with _ q; exact e q)
    rw [h2 n e, h n]
    simp [hs]
theorem Gone.done {left : Lit → Bool} {f : Int → Nat} {l : List Int} (h : Gone left f l) (hl : ∀ kl, left kl = false) (n : Int) : f n = PT.wsum l n := by
  rw [h n, if_neg (by rw [hl]; simp)]
theorem Gone.le {left : Lit → Bool} {f : Int → Nat} {l : List Int} (h : Gone left f l) (n : Int) : f n ≤ PT.wsum l n := by
  rw [h n]; split <;> omega

/-- What a partition says of its odd parts. -/
structure Wb (l : List Int) : Prop where
  pos : ∀ x ∈ l, 1 ≤ x
  sum : l.sum ≤ 2000
theorem Wb.times {l : List Int} (h : Wb l) {n : Int} (hn : 0 < PT.wsum l n) : 1 ≤ n ∧ n ≤ 2000 ∧ PT.wsum l n ≤ 2000 ∧ ∃ k : Nat, n = (k : Int) ∧ k % 2 = 1 ∧ k * PT.wsum l n ≤ 2000 := by
  obtain ⟨x, hx, e⟩ := PT.wsum_pos hn
  obtain ⟨a, b, c, d⟩ := PT.od_p2 x.toNat (by have := h.pos x hx; omega)
  have h1 := PT.wsum_sum h.pos n (by omega)
  have h2 := h.sum
  have h3 : 1 * (PT.wsum l n : Int) ≤ n * (PT.wsum l n : Int) := Int.mul_le_mul_of_nonneg_right (by omega) (by omega)
  have h4 : n * 1 ≤ n * (PT.wsum l n : Int) := Int.mul_le_mul_of_nonneg_left (by omega) (by omega)
  refine ⟨by omega, by omega, by omega, PT.od x.toNat, e.symm, b, ?_⟩
  rw [← e] at h1
  rw [← e]
  have h5 : ((PT.od x.toNat * PT.wsum l (PT.od x.toNat : Int) : Nat) : Int) = (PT.od x.toNat : Int) * (PT.wsum l (PT.od x.toNat : Int) : Int) := Int.natCast_mul ..
  omega
theorem Wb.len {l s : List Int} (h : Wb l) (hs : ∀ n, PT.cnt s n ≤ PT.wsum l n) : s.length ≤ 2000 := by
  have := PT.len_w h.pos hs
  have := h.sum
  omega
theorem ints_rep (s : List Int) (C : Nat) (x : Int) : ints s ++ List.replicate C (Value.int .i64 x) = ints (s ++ List.replicate C x) := by simp [ints]

set_option maxRecDepth 100000 in
set_option maxHeartbeats 4000000 in
theorem odd_any (v : Value) (l : List Int) (w : World) (h : IS w v l) (hl : l.length ≤ 1000) (hr : ∀ j, j < l.length → 1 ≤ l.getD j 0 ∧ l.getD j 0 ≤ 2000) (hW : Wb l) :
    Calls Tryd.prog 33 #[v] w fun e w' => ∃ (v' : Value) (s : List Int), e = .returned v' ∧ Iu w.heap.size w' v' (s.mergeSort fun x y => decide (x ≤ y)).reverse ∧ (∀ n, PT.cnt s n = PT.wsum l n) ∧ s.length ≤ 2000 ∧ Below w.heap.size w w' := by
  obtain ⟨k0, hk, hx0, hx1, hx2⟩ := info_parts Tryd.infoIntT
  have HP : Hid (Tryd.prog.info? 3 = some k0 ∧ k0.zero = some (.int .i64 0) ∧ k0.size = 1 ∧ k0.bytes = 8) := ⟨hk, hx0, hx1, hx2⟩
  have HT : Hid (Calls Tryd.prog 50 #[v] w fun e w' => ∃ (b n : Nat) (E : DataW Unit), e = .returned (.map (some b)) ∧ w'.ownsMap Tryd.prog 3 (plainElem Tryd.prog 3) b n E ∧ n ≤ 1000 ∧ w.heap.size ≤ b ∧ Tm E l ∧ Below w.heap.size w w') := timesOfOdds_any v l w h hl hr
  have HWb : Hid (Wb l) := hW
  clear h hl hr hW hk hx0 hx1 hx2
  go_enter Tryd.func33, Tryd.ntmps33
  go_wp2_with fail
  refine HT.out.mono ?_
  rintro e w1 ⟨b, n, E, rfl, om, hn, hb, hT, k1⟩
  have HTm : Hid (Tm E l) := hT
  have HK1 : Hid (Below w.heap.size w w1 ∧ w.heap.size ≤ b ∧ b < w1.heap.size) := ⟨k1, hb, om.lt⟩
  clear HT hT k1 hb hn
  go_wp2_with (at_range; refine wpList_range_own _ rfl _ 80 rfl 3 3 lawQ Tryd.underlying80 _ b n _ rfl om ?_; intro w3 hrg3 hg3 hs3)
  obtain ⟨r, hr⟩ : ∃ r, w1.heap.size = r := ⟨_, rfl⟩
  rw [hr] at hrg3 hs3 ⊢
  have HS : Hid (w.heap.size ≤ r ∧ b < r) := ⟨by have := HK1.out.1.size; omega, by have := HK1.out.2.2; omega⟩
  have HR3 : Hid (w3.ranges Tryd.prog 3 (plainElem Tryd.prog 3) b r n E (Maps.has E) (Maps.size E) ∧ Below w.heap.size w w3 ∧ r + 1 ≤ w3.heap.size) := ⟨hrg3, HK1.out.1.grown hg3 HK1.out.1.size (by simp), by omega⟩
  clear hrg3 hg3 hs3 om HK1 hr
  go_frame
  go_loopw [3] (fun lv wx => ∃ (left : Lit → Bool) (cnt : Nat) (s : List Int) (u : Value), lv = u ∧ Hid (wx.ranges Tryd.prog 3 (plainElem Tryd.prog 3) b r n E left cnt ∧ Gone left (PT.cnt s) l ∧ wx.ownsRow (r + 1) 3 1 u s.length (ints s) ∧ r + 1 ≤ wx.heap.size ∧ Below w.heap.size w wx)) (fun _ wx => wx.rangeLeft b r)
  case atStart => exact ⟨_, _, [], _, rfl, HR3.out.1, Gone.start HTm.out (fun n => rfl), World.ownsRow_nil _ _ _ _, HR3.out.2.2, HR3.out.2.1⟩
  case round =>
    clear HR3
    obtain ⟨left, cnt, s, u, hu, HR⟩ := hrel
    have hu2 := hu.symm
    clear hu
    subst hu2
    obtain ⟨hrg, hlf, hrow, hsz, hbe⟩ := HR.out
    have HM : Hid (wr.rangeLeft b r = cnt) := hrg.left_eq
    go_wp2_with (at_next; refine wpList_next_ranges_ii _ rfl _ rfl 3 3 .i64 .i64 lawQ Tryd.underlying3 Tryd.underlying3 b r n E left cnt rfl hrg ?_ ?_)
    · intro hc0 hl0
      have HD : Hid ((∀ n, PT.cnt s n = PT.wsum l n) ∧ s.length ≤ 2000) := ⟨fun n => hlf.done hl0 n, HWb.out.len (fun n => hlf.le n)⟩
      have HFa : Hid (Calls Tryd.prog 52 #[u] wr fun e w' => e = .returned u ∧ Iu (r + 1) w' u (s.mergeSort fun x y => decide (x ≤ y)).reverse ∧ Below (r + 1) wr w') := falling_any (r + 1) u s wr hrow (by have := HD.out.2; omega) hsz
      have HBe : Hid (Below w.heap.size w wr) := hbe
      clear hlf hrow hsz hbe hrg HR hl0 hc0
      go_wp2_with fail
      refine HFa.out.mono ?_
      rintro e w4 ⟨rfl, hI, k4⟩
      have HF : Hid (Iu w.heap.size w4 u (s.mergeSort fun x y => decide (x ≤ y)).reverse ∧ Below w.heap.size w w4) := ⟨hI.mono (by have := HS.out.1; omega), HBe.out.trans (k4.mono (by have := HS.out.1; omega))⟩
      clear hI k4 HFa HBe
      go_wp2
      go_ret
      exact ⟨_, s, rfl, HF.out.1, HD.out.1, HD.out.2, HF.out.2⟩
    · intro x c w4 cnt' hwx hwc hlk hat hrg4 hlt hgr hsz4 hen
      obtain ⟨hc1, hc2⟩ := HTm.out.val x c hat
      obtain ⟨x1, x2, c2, _⟩ := HWb.out.times hc2
      obtain ⟨C, hC⟩ : ∃ C, C = PT.wsum l x := ⟨_, rfl⟩
      rw [← hC] at hc1 hc2 c2
      subst hc1
      have hlen := HWb.out.len (fun n => hlf.le n)
      have HLf : Hid (Gone (fun z => left z && !z.sameKey (.int .i64 x)) (PT.cnt (s ++ List.replicate C x)) l) := hlf.step hlk (by
          rw [PT.cnt_append, PT.cnt_rep, if_pos rfl, hC]
          have := hlf x
          rw [if_pos hlk] at this
          omega) (fun n hn => by rw [PT.cnt_append, PT.cnt_rep, if_neg (fun e => hn e.symm)]; rfl)
      have hrow4 := hrow.kept hgr (.inr (row_low hrow (Nat.lt_succ_self _)).symm)
      have HX : Hid (w4.ranges Tryd.prog 3 (plainElem Tryd.prog 3) b r n E (fun z => left z && !z.sameKey (.int .i64 x)) cnt' ∧ cnt' < cnt ∧ w4.ownsRow (r + 1) 3 1 u s.length (ints s) ∧ r + 1 ≤ w4.heap.size ∧ Below w.heap.size w w4) := ⟨hrg4, hlt, hrow4, by omega, hbe.grown hgr hbe.size (fun j hj => by cases hj; exact HS.out.1)⟩
      have HLn : Hid (s.length ≤ 2000) := hlen
      clear hrow4 hrg4 hlt hgr hsz4 hrg hlf hrow hsz hbe HR hwx hwc hlk hat hC hlen
      obtain ⟨bx, hbx⟩ : ∃ b, w4.heap.size = b := ⟨_, rfl⟩
      obtain ⟨W5, hW5⟩ : ∃ W, w4.alloc (.cells #[.int .i64 x] 3) = W := ⟨_, rfl⟩
      have kb := below_one w4 (.cells #[.int .i64 x] 3)
      have C5 := Cl.new [.int .i64 x] 3 w4
      rw [hW5] at kb C5
      rw [hbx] at C5
      have HX5 : Hid (W5.ranges Tryd.prog 3 (plainElem Tryd.prog 3) b r n E (fun z => left z && !z.sameKey (.int .i64 x)) cnt' ∧ cnt' < cnt ∧ W5.ownsRow (r + 1) 3 1 u s.length (ints s) ∧ r + 1 ≤ W5.heap.size ∧ Below w.heap.size w W5) := ⟨HX.out.1.kept (rg_below kb) (by simp) (by simp), HX.out.2.1, row_keptB HX.out.2.2.1 kb, by have := kb.size; have := HX.out.2.2.2.1; omega, HX.out.2.2.2.2.trans (kb.mono HX.out.2.2.2.2.size)⟩
      have HRp : Hid (Calls Tryd.prog 51 #[.slice (some ⟨bx, 0, none⟩) 1 1, .int .i64 (C : Int)] W5 fun e w' => ∃ g, e = .returned (.slice (some ⟨g, 0, none⟩) C C) ∧ W5.heap.size ≤ g ∧ Cl g (List.replicate C (.int .i64 x)) 3 w' ∧ Below W5.heap.size W5 w') := Repeat_one x C bx W5 hc2 c2 C5
      clear kb C5 HX
      go_wp2_with fail
      clear hW5 hbx
      refine HRp.out.mono ?_
      rintro e w6 ⟨g, rfl, hg6, hcl6, k6⟩
      have HX6 : Hid (w6.ranges Tryd.prog 3 (plainElem Tryd.prog 3) b r n E (fun z => left z && !z.sameKey (.int .i64 x)) cnt' ∧ cnt' < cnt ∧ w6.ownsRow (r + 1) 3 1 u s.length (ints s) ∧ r + 1 ≤ w6.heap.size ∧ Below w.heap.size w w6) := ⟨HX5.out.1.kept (rg_below k6) (by simp) (by simp), HX5.out.2.1, row_keptB HX5.out.2.2.1 k6, by have := k6.size; have := HX5.out.2.2.2.1; omega, HX5.out.2.2.2.2.trans (k6.mono HX5.out.2.2.2.2.size)⟩
      have HC6 : Hid (Cl g (List.replicate C (.int .i64 x)) 3 w6) := hcl6
      clear HX5 hcl6 k6 hg6 HRp
      go_wp2_with (at_builtin; refine wpList_append_own _ rfl _ _ 36 rfl (r + 1) 3 k0 (.int .i64 0) 1 8 Tryd.underlying36 HP.out.1 HP.out.2.1 HP.out.2.2.1 HP.out.2.2.2 rfl (by decide) u s.length (ints s) rfl HX6.out.2.2.1 ⟨g, 0, none⟩ C C (List.replicate C (.int .i64 x)) rfl (by simp) (own_news HC6.out) (by intro u hu; rw [(List.mem_replicate.1 hu).2]; rfl) (by have := HLn.out; simp only [maxLen]; omega) (by have := HLn.out; omega) HX6.out.2.2.2.1 ?_; intro v' w7 hown' hgrow _; have HX7 : Hid (w7.ranges Tryd.prog 3 (plainElem Tryd.prog 3) b r n E (fun z => left z && !z.sameKey (.int .i64 x)) cnt' ∧ w7.ownsRow (r + 1) 3 1 v' (s ++ List.replicate C x).length (ints (s ++ List.replicate C x)) ∧ r + 1 ≤ w7.heap.size ∧ Below w.heap.size w w7) := ⟨HX6.out.1.kept hgrow (row_low HX6.out.2.2.1 (by have := HS.out.2; omega)) (row_low HX6.out.2.2.1 (Nat.lt_succ_self _)), by rw [← ints_rep, List.length_append, List.length_replicate]; exact hown', by have := hgrow.size; have := HX6.out.2.2.2.1; omega, HX6.out.2.2.2.2.grown hgrow HX6.out.2.2.2.2.size (fun j hj => by have := (HX6.out.2.2.1.lt j hj).1; have := HS.out.1; omega)⟩; clear hown' hgrow)
      go_roundw
      case rel => exact ⟨_, cnt', s ++ List.replicate C x, v', rfl, HX7.out.1, HLf.out, HX7.out.2.1, HX7.out.2.2.1, HX7.out.2.2.2⟩
      case measure => rw [HX7.out.1.left_eq, HM.out]; exact HX6.out.2.1

end Go.Proofs.YtmifenflbaohnaaDoor
end

section
/- The program: apart. -/
set_option linter.unusedSimpArgs false
set_option linter.unusedVariables false
set_option maxRecDepth 100000
namespace Go.Proofs.YtmifenflbaohnaaDoor
open Go.RowKit Go.Maps Go.Sort

theorem pc_start {left : Lit → Bool} {s l : List Int} {k : Nat} (h : Gone left (PT.wsum s) l) (hk : left (.int .i64 (k : Int)) = true) (hn : s.Nodup) (hr : ∀ y ∈ s, 1 ≤ y ∧ y ≤ 2000) : PT.Pc l s k (PT.wsum l (k : Int)) := by
  have h0 : PT.wsum s (k : Int) = 0 := by have := h (k : Int); rw [if_pos hk] at this; exact this
  refine ⟨hn, hr, Nat.le_refl _, by rw [h0]; omega, fun y hy ho _ => ?_⟩
  exfalso
  have hy1 := hr y hy
  have : 0 < PT.wsum s (k : Int) := by
    obtain ⟨a, b, e⟩ := List.append_of_mem hy
    rw [e, show a ++ y :: b = a ++ ([y] ++ b) from rfl, PT.wsum_append, PT.wsum_append, PT.wsum_one, if_pos ho]
    have := (PT.od_p2 y.toNat (by omega)).2.2.1
    omega
  omega
theorem ints_one1 (s : List Int) (x : Int) : ints s ++ [Value.int .i64 x] = ints (s ++ [x]) := by simp [ints]

set_option maxRecDepth 100000 in
set_option maxHeartbeats 4000000 in
theorem apart_any (v : Value) (l : List Int) (w : World) (h : IS w v l) (hl : l.length ≤ 1000) (hr : ∀ j, j < l.length → 1 ≤ l.getD j 0 ∧ l.getD j 0 ≤ 2000) (hW : Wb l) :
    Calls Tryd.prog 35 #[v] w fun e w' => ∃ (v' : Value) (s : List Int), e = .returned v' ∧ Iu w.heap.size w' v' (s.mergeSort fun x y => decide (x ≤ y)).reverse ∧ (∀ n, PT.wsum s n = PT.wsum l n) ∧ s.Nodup ∧ (∀ y ∈ s, 1 ≤ y ∧ y ≤ 2000) ∧ Below w.heap.size w w' := by
  obtain ⟨k0, hk, hx0, hx1, hx2⟩ := info_parts Tryd.infoIntT
  have HP : Hid (Tryd.prog.info? 3 = some k0 ∧ k0.zero = some (.int .i64 0) ∧ k0.size = 1 ∧ k0.bytes = 8) := ⟨hk, hx0, hx1, hx2⟩
  have HT : Hid (Calls Tryd.prog 50 #[v] w fun e w' => ∃ (b n : Nat) (E : DataW Unit), e = .returned (.map (some b)) ∧ w'.ownsMap Tryd.prog 3 (plainElem Tryd.prog 3) b n E ∧ n ≤ 1000 ∧ w.heap.size ≤ b ∧ Tm E l ∧ Below w.heap.size w w') := timesOfOdds_any v l w h hl hr
  have HWb : Hid (Wb l) := hW
  clear h hl hr hW hk hx0 hx1 hx2
  go_enter Tryd.func35, Tryd.ntmps35
  go_wp2_with fail
  refine HT.out.mono ?_
  rintro e w1 ⟨b, n, E, rfl, om, hn, hb, hT, k1⟩
  have HTm : Hid (Tm E l) := hT
  have HK1 : Hid (Below w.heap.size w w1 ∧ w.heap.size ≤ b ∧ b < w1.heap.size) := ⟨k1, hb, om.lt⟩
  clear HT hT k1 hb hn
  go_wp2_with (at_range; refine wpList_range_own _ rfl _ 80 rfl 3 3 lawQ Tryd.underlying80 _ b n _ rfl om ?_; intro w3 hrg3 hg3 hs3)
  obtain ⟨r, hr⟩ : ∃ r, w1.heap.size = r := ⟨_, rfl⟩
  rw [hr] at hrg3 hs3 ⊢
  have HS : Hid (w.heap.size ≤ r ∧ b < r) := ⟨by have := HK1.out.1.size; omega, by have := HK1.out.2.2; omega⟩
  have HR3 : Hid (w3.ranges Tryd.prog 3 (plainElem Tryd.prog 3) b r n E (Maps.has E) (Maps.size E) ∧ Below w.heap.size w w3 ∧ r + 1 ≤ w3.heap.size) := ⟨hrg3, HK1.out.1.grown hg3 HK1.out.1.size (by simp), by omega⟩
  clear hrg3 hg3 hs3 om HK1 hr
  go_frame
  go_loopw [3] (fun lv wx => ∃ (left : Lit → Bool) (cnt : Nat) (s : List Int) (u : Value), lv = u ∧ Hid (wx.ranges Tryd.prog 3 (plainElem Tryd.prog 3) b r n E left cnt ∧ Gone left (PT.wsum s) l ∧ s.Nodup ∧ (∀ y ∈ s, 1 ≤ y ∧ y ≤ 2000) ∧ wx.ownsRow (r + 1) 3 1 u s.length (ints s) ∧ r + 1 ≤ wx.heap.size ∧ Below w.heap.size w wx)) (fun _ wx => wx.rangeLeft b r)
  case atStart => exact ⟨_, _, [], _, rfl, HR3.out.1, Gone.start HTm.out (fun n => rfl), List.nodup_nil, by simp, World.ownsRow_nil _ _ _ _, HR3.out.2.2, HR3.out.2.1⟩
  case round =>
    clear HR3
    obtain ⟨left, cnt, s, u, hu, HR⟩ := hrel
    have hu2 := hu.symm
    clear hu
    subst hu2
    obtain ⟨hrg, hlf, hnd, hrn, hrow, hsz, hbe⟩ := HR.out
    have HM : Hid (wr.rangeLeft b r = cnt) := hrg.left_eq
    go_wp2_with (at_next; refine wpList_next_ranges_ii _ rfl _ rfl 3 3 .i64 .i64 lawQ Tryd.underlying3 Tryd.underlying3 b r n E left cnt rfl hrg ?_ ?_)
    · intro hc0 hl0
      have HD : Hid ((∀ n, PT.wsum s n = PT.wsum l n) ∧ s.Nodup ∧ ∀ y ∈ s, 1 ≤ y ∧ y ≤ 2000) := ⟨fun n => hlf.done hl0 n, hnd, hrn⟩
      have HFa : Hid (Calls Tryd.prog 52 #[u] wr fun e w' => e = .returned u ∧ Iu (r + 1) w' u (s.mergeSort fun x y => decide (x ≤ y)).reverse ∧ Below (r + 1) wr w') := falling_any (r + 1) u s wr hrow (by have := PT.nodup_len hnd hrn; omega) hsz
      have HBe : Hid (Below w.heap.size w wr) := hbe
      clear hlf hrow hsz hbe hrg HR hl0 hc0 hnd hrn
      go_wp2_with fail
      refine HFa.out.mono ?_
      rintro e w4 ⟨rfl, hI, k4⟩
      have HF : Hid (Iu w.heap.size w4 u (s.mergeSort fun x y => decide (x ≤ y)).reverse ∧ Below w.heap.size w w4) := ⟨hI.mono (by have := HS.out.1; omega), HBe.out.trans (k4.mono (by have := HS.out.1; omega))⟩
      clear hI k4 HFa HBe
      go_wp2
      go_ret
      exact ⟨_, s, rfl, HF.out.1, HD.out.1, HD.out.2.1, HD.out.2.2, HF.out.2⟩
    · intro x c w4 cnt' hwx hwc hlk hat hrg4 hlt hgr hsz4 hen
      obtain ⟨hc1, hc2⟩ := HTm.out.val x c hat
      obtain ⟨x1, x2, c2, q, rfl, hq2, hqb⟩ := HWb.out.times hc2
      obtain ⟨C, hC⟩ : ∃ C, C = PT.wsum l (q : Int) := ⟨_, rfl⟩
      have hpc := pc_start hlf hlk hnd hrn
      rw [← hC] at hc1 hc2 c2 hpc hqb
      subst hc1
      have hrow4 := hrow.kept hgr (.inr (row_low hrow (Nat.lt_succ_self _)).symm)
      have HX : Hid (w4.ranges Tryd.prog 3 (plainElem Tryd.prog 3) b r n E (fun z => left z && !z.sameKey (.int .i64 (q : Int))) cnt' ∧ PT.Pc l s q C ∧ w4.ownsRow (r + 1) 3 1 u s.length (ints s) ∧ r + 1 ≤ w4.heap.size ∧ Below w.heap.size w w4) := ⟨hrg4, hpc, hrow4, by omega, hbe.grown hgr hbe.size (fun j hj => by cases hj; exact HS.out.1)⟩
      have HLt : Hid (cnt' < cnt) := hlt
      have HG0 : Hid (Gone left (PT.wsum s) l ∧ left (.int .i64 (q : Int)) = true ∧ q % 2 = 1 ∧ q * C ≤ 2000 ∧ C = PT.wsum l (q : Int)) := ⟨hlf, hlk, hq2, hqb, hC⟩
      clear hrow4 hrg4 hlt hgr hsz4 hrg hlf hrow hsz hbe HR hwx hwc hlk hat hC hnd hrn hpc hqb
      go_wp2
      clear hen
      go_loopg [3, 5] C (fun gk lv tv wx => ∃ (t : Nat) (s' : List Int) (u' : Value), lv = u' ∧ tv = .int .i64 (t : Int) ∧ Hid (gk = t ∧ t ≤ C ∧ (∀ m : Int, m ≠ q → PT.wsum s' m = PT.wsum s m) ∧ wx.ranges Tryd.prog 3 (plainElem Tryd.prog 3) b r n E (fun z => left z && !z.sameKey (.int .i64 (q : Int))) cnt' ∧ PT.Pc l s' q t ∧ wx.ownsRow (r + 1) 3 1 u' s'.length (ints s') ∧ r + 1 ≤ wx.heap.size ∧ Below w.heap.size w wx))
      case atStart => exact ⟨C, s, u, rfl, rfl, rfl, Nat.le_refl _, fun _ _ => rfl, HX.out⟩
      case round =>
        clear HX
        obtain ⟨t, s', u', hu, rfl, HR⟩ := hrel
        have hu2 := hu.symm
        clear hu
        subst hu2
        obtain ⟨hgk, htC, hot, hrg, hpc, hrow, hsz, hbe⟩ := HR.out
        have HX : Hid (wr.ranges Tryd.prog 3 (plainElem Tryd.prog 3) b r n E (fun z => left z && !z.sameKey (.int .i64 (q : Int))) cnt' ∧ PT.Pc l s' q t ∧ wr.ownsRow (r + 1) 3 1 u' s'.length (ints s') ∧ r + 1 ≤ wr.heap.size ∧ Below w.heap.size w wr) := ⟨hrg, hpc, hrow, hsz, hbe⟩
        have HGk : Hid (gk = t ∧ ∀ m : Int, m ≠ q → PT.wsum s' m = PT.wsum s m) := ⟨hgk, hot⟩
        have HLn : Hid (s'.length ≤ 2001) := PT.nodup_len hpc.nd hpc.rg
        by_cases h0 : t = 0
        · have ti : decide (0 < (t : Int)) = false := decide_eq_false (by omega)
          have HN : Hid (Gone (fun z => left z && !z.sameKey (.int .i64 (q : Int))) (PT.wsum s') l) := HG0.out.1.step HG0.out.2.1 (by have := hpc.wn; omega) hot
          subst h0
          clear HR hgk htC hot hrg hpc hrow hsz hbe
          go_wp2
          go_roundw
          case rel => exact ⟨_, cnt', s', u', rfl, HX.out.1, HN.out, HX.out.2.1.nd, HX.out.2.1.rg, HX.out.2.2.1, HX.out.2.2.2.1, HX.out.2.2.2.2⟩
          case measure => rw [HX.out.1.left_eq, HM.out]; exact HLt.out
        · have ti : decide (0 < (t : Int)) = true := decide_eq_true (by omega)
          obtain ⟨s1, s2, s3, s4, s5⟩ := hpc.step (by omega) HG0.out.2.2.1 (by rw [← HG0.out.2.2.2.2]; exact HG0.out.2.2.2.1)
          have HLp : Hid (∀ W, Calls Tryd.prog 53 #[.int .i64 (t : Int)] W fun e w' => e = .returned (.int .i64 (PT.p2 t : Int)) ∧ w' = W) := fun W => leastPower_any t W (by omega) (by omega)
          obtain ⟨p, hp⟩ : ∃ p, p = PT.p2 t := ⟨_, rfl⟩
          rw [← hp] at s1 s2 s3 s4 s5 HLp
          obtain ⟨y, hy⟩ : ∃ y, y = q * p := ⟨_, rfl⟩
          rw [← hy] at s1 s2 s5
          have hmul : (q : Int) * (p : Int) = (y : Int) := by rw [hy, Int.natCast_mul]
          have hsub : (t : Int) - (p : Int) = ((t - p : Nat) : Int) := by omega
          have HSt : Hid (PT.Pc l (s' ++ [(y : Int)]) q (t - p) ∧ (∀ m : Int, m ≠ q → PT.wsum (s' ++ [(y : Int)]) m = PT.wsum s' m) ∧ 1 ≤ p ∧ p ≤ t) := ⟨s1, s2, s3, s4⟩
          have htb : t ≤ 2000 := by omega
          have hpb : p ≤ 2000 := by omega
          clear HR hgk hot hrg hpc hrow hsz hbe s1 s2 hp hy
          go_wp2_with fail
          refine (HLp.out _).mono ?_
          rintro e w5 ⟨rfl, hw5⟩
          rw [hw5]
          clear hw5 w5 HLp
          obtain ⟨bx, hbx⟩ : ∃ b, wr.heap.size = b := ⟨_, rfl⟩
          obtain ⟨W5, hW5⟩ : ∃ W, wr.alloc (.cells #[.int .i64 (y : Int)] 3) = W := ⟨_, rfl⟩
          have kb := below_one wr (.cells #[.int .i64 (y : Int)] 3)
          have C5 := Cl.new [.int .i64 (y : Int)] 3 wr
          rw [hW5] at kb C5
          rw [hbx] at C5
          have HC5 : Hid (Cl bx [.int .i64 (y : Int)] 3 W5) := C5
          have HX5 : Hid (W5.ranges Tryd.prog 3 (plainElem Tryd.prog 3) b r n E (fun z => left z && !z.sameKey (.int .i64 (q : Int))) cnt' ∧ W5.ownsRow (r + 1) 3 1 u' s'.length (ints s') ∧ r + 1 ≤ W5.heap.size ∧ Below w.heap.size w W5) := ⟨HX.out.1.kept (rg_below kb) (by simp) (by simp), row_keptB HX.out.2.2.1 kb, by have := kb.size; have := HX.out.2.2.2.1; omega, HX.out.2.2.2.2.trans (kb.mono HX.out.2.2.2.2.size)⟩
          clear kb C5 HX
          go_wp2_with (at_builtin; refine wpList_append_own _ rfl _ _ 36 rfl (r + 1) 3 k0 (.int .i64 0) 1 8 Tryd.underlying36 HP.out.1 HP.out.2.1 HP.out.2.2.1 HP.out.2.2.2 rfl (by decide) u' s'.length (ints s') rfl HX5.out.2.1 ⟨bx, 0, none⟩ 1 1 [.int .i64 (y : Int)] rfl rfl (own_news HC5.out) (by simp [Value.oneCell']) (by have := HLn.out; simp only [maxLen]; omega) (by have := HLn.out; omega) HX5.out.2.2.1 ?_; intro v' w7 hown' hgrow _; have HX7 : Hid (w7.ranges Tryd.prog 3 (plainElem Tryd.prog 3) b r n E (fun z => left z && !z.sameKey (.int .i64 (q : Int))) cnt' ∧ w7.ownsRow (r + 1) 3 1 v' (s' ++ [(y : Int)]).length (ints (s' ++ [(y : Int)])) ∧ r + 1 ≤ w7.heap.size ∧ Below w.heap.size w w7) := ⟨HX5.out.1.kept hgrow (row_low HX5.out.2.1 (by have := HS.out.2; omega)) (row_low HX5.out.2.1 (Nat.lt_succ_self _)), by rw [← ints_one1, List.length_append]; exact hown', by have := hgrow.size; have := HX5.out.2.2.1; omega, HX5.out.2.2.2.grown hgrow HX5.out.2.2.2.size (fun j hj => by have := (HX5.out.2.1.lt j hj).1; have := HS.out.1; omega)⟩; clear hown' hgrow)
          go_roundg (t - p)
          case rel => exact ⟨t - p, s' ++ [(y : Int)], v', rfl, by first | rfl | go_num, rfl, by omega, fun m hm => (HSt.out.2.1 m hm).trans (HGk.out.2 m hm), HX7.out.1, HSt.out.1, HX7.out.2.1, HX7.out.2.2.1, HX7.out.2.2.2⟩
          case measure => have := HGk.out.1; have := HSt.out.2.2; omega

end Go.Proofs.YtmifenflbaohnaaDoor
end
