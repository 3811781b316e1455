/- The program: apart. -/
import Derived.Test.YtmifenflbaohnaaDoorPuE
set_option linter.unusedSimpArgs false
set_option linter.unusedVariables false
set_option maxRecDepth 100000
namespace Go.Proofs.YtmifenflbaohnaaDoor
open Go.RowKit Go.Maps Go.Sort

theorem pc_start {left : Lit → Bool} {s l : List Int} {k : Nat} (h : Gone left (PT.wsum s) l) (hk : left (.int .i64 (k : Int)) = true) (hn : s.Nodup) (hr : ∀ y ∈ s, 1 ≤ y ∧ y ≤ 2000) : PT.Pc l s k (PT.wsum l (k : Int)) := by
  have h0 : PT.wsum s (k : Int) = 0 := by have := h (k : Int); rw [if_pos hk] at this; exact this
  refine ⟨hn, hr, Nat.le_refl _, by rw [h0]; omega, fun y hy ho _ => ?_⟩
  exfalso
  have hy1 := hr y hy
  have : 0 < PT.wsum s (k : Int) := by
    obtain ⟨a, b, e⟩ := List.append_of_mem hy
    rw [e, show a ++ y :: b = a ++ ([y] ++ b) from rfl, PT.wsum_append, PT.wsum_append, PT.wsum_one, if_pos ho]
    have := (PT.od_p2 y.toNat (by omega)).2.2.1
    omega
  omega
theorem ints_one1 (s : List Int) (x : Int) : ints s ++ [Value.int .i64 x] = ints (s ++ [x]) := by simp [ints]

set_option maxRecDepth 100000 in
set_option maxHeartbeats 4000000 in
theorem apart_any (v : Value) (l : List Int) (w : World) (h : IS w v l) (hl : l.length ≤ 1000) (hr : ∀ j, j < l.length → 1 ≤ l.getD j 0 ∧ l.getD j 0 ≤ 2000) (hW : Wb l) :
    Calls Tryd.prog 35 #[v] w fun e w' => ∃ (v' : Value) (s : List Int), e = .returned v' ∧ Iu w.heap.size w' v' (s.mergeSort fun x y => decide (x ≤ y)).reverse ∧ (∀ n, PT.wsum s n = PT.wsum l n) ∧ s.Nodup ∧ (∀ y ∈ s, 1 ≤ y ∧ y ≤ 2000) ∧ Below w.heap.size w w' := by
  obtain ⟨k0, hk, hx0, hx1, hx2⟩ := info_parts Tryd.infoIntT
  have HP : Hid (Tryd.prog.info? 3 = some k0 ∧ k0.zero = some (.int .i64 0) ∧ k0.size = 1 ∧ k0.bytes = 8) := ⟨hk, hx0, hx1, hx2⟩
  have HT : Hid (Calls Tryd.prog 50 #[v] w fun e w' => ∃ (b n : Nat) (E : DataW Unit), e = .returned (.map (some b)) ∧ w'.ownsMap Tryd.prog 3 (plainElem Tryd.prog 3) b n E ∧ n ≤ 1000 ∧ w.heap.size ≤ b ∧ Tm E l ∧ Below w.heap.size w w') := timesOfOdds_any v l w h hl hr
  have HWb : Hid (Wb l) := hW
  clear h hl hr hW hk hx0 hx1 hx2
  go_enter Tryd.func35, Tryd.ntmps35
  go_wp2_with fail
  refine HT.out.mono ?_
  rintro e w1 ⟨b, n, E, rfl, om, hn, hb, hT, k1⟩
  have HTm : Hid (Tm E l) := hT
  have HK1 : Hid (Below w.heap.size w w1 ∧ w.heap.size ≤ b ∧ b < w1.heap.size) := ⟨k1, hb, om.lt⟩
  clear HT hT k1 hb hn
  go_wp2_with (at_range; refine wpList_range_own _ rfl _ 80 rfl 3 3 lawQ Tryd.underlying80 _ b n _ rfl om ?_; intro w3 hrg3 hg3 hs3)
  obtain ⟨r, hr⟩ : ∃ r, w1.heap.size = r := ⟨_, rfl⟩
  rw [hr] at hrg3 hs3 ⊢
  have HS : Hid (w.heap.size ≤ r ∧ b < r) := ⟨by have := HK1.out.1.size; omega, by have := HK1.out.2.2; omega⟩
  have HR3 : Hid (w3.ranges Tryd.prog 3 (plainElem Tryd.prog 3) b r n E (Maps.has E) (Maps.size E) ∧ Below w.heap.size w w3 ∧ r + 1 ≤ w3.heap.size) := ⟨hrg3, HK1.out.1.grown hg3 HK1.out.1.size (by simp), by omega⟩
  clear hrg3 hg3 hs3 om HK1 hr
  go_frame
  go_loopw [3] (fun lv wx => ∃ (left : Lit → Bool) (cnt : Nat) (s : List Int) (u : Value), lv = u ∧ Hid (wx.ranges Tryd.prog 3 (plainElem Tryd.prog 3) b r n E left cnt ∧ Gone left (PT.wsum s) l ∧ s.Nodup ∧ (∀ y ∈ s, 1 ≤ y ∧ y ≤ 2000) ∧ wx.ownsRow (r + 1) 3 1 u s.length (ints s) ∧ r + 1 ≤ wx.heap.size ∧ Below w.heap.size w wx)) (fun _ wx => wx.rangeLeft b r)
  case atStart => exact ⟨_, _, [], _, rfl, HR3.out.1, Gone.start HTm.out (fun n => rfl), List.nodup_nil, by simp, World.ownsRow_nil _ _ _ _, HR3.out.2.2, HR3.out.2.1⟩
  case round =>
    clear HR3
    obtain ⟨left, cnt, s, u, hu, HR⟩ := hrel
    have hu2 := hu.symm
    clear hu
    subst hu2
    obtain ⟨hrg, hlf, hnd, hrn, hrow, hsz, hbe⟩ := HR.out
    have HM : Hid (wr.rangeLeft b r = cnt) := hrg.left_eq
    go_wp2_with (at_next; refine wpList_next_ranges_ii _ rfl _ rfl 3 3 .i64 .i64 lawQ Tryd.underlying3 Tryd.underlying3 b r n E left cnt rfl hrg ?_ ?_)
    · intro hc0 hl0
      have HD : Hid ((∀ n, PT.wsum s n = PT.wsum l n) ∧ s.Nodup ∧ ∀ y ∈ s, 1 ≤ y ∧ y ≤ 2000) := ⟨fun n => hlf.done hl0 n, hnd, hrn⟩
      have HFa : Hid (Calls Tryd.prog 52 #[u] wr fun e w' => e = .returned u ∧ Iu (r + 1) w' u (s.mergeSort fun x y => decide (x ≤ y)).reverse ∧ Below (r + 1) wr w') := falling_any (r + 1) u s wr hrow (by have := PT.nodup_len hnd hrn; omega) hsz
      have HBe : Hid (Below w.heap.size w wr) := hbe
      clear hlf hrow hsz hbe hrg HR hl0 hc0 hnd hrn
      go_wp2_with fail
      refine HFa.out.mono ?_
      rintro e w4 ⟨rfl, hI, k4⟩
      have HF : Hid (Iu w.heap.size w4 u (s.mergeSort fun x y => decide (x ≤ y)).reverse ∧ Below w.heap.size w w4) := ⟨hI.mono (by have := HS.out.1; omega), HBe.out.trans (k4.mono (by have := HS.out.1; omega))⟩
      clear hI k4 HFa HBe
      go_wp2
      go_ret
      exact ⟨_, s, rfl, HF.out.1, HD.out.1, HD.out.2.1, HD.out.2.2, HF.out.2⟩
    · intro x c w4 cnt' hwx hwc hlk hat hrg4 hlt hgr hsz4 hen
      obtain ⟨hc1, hc2⟩ := HTm.out.val x c hat
      obtain ⟨x1, x2, c2, q, rfl, hq2, hqb⟩ := HWb.out.times hc2
      obtain ⟨C, hC⟩ : ∃ C, C = PT.wsum l (q : Int) := ⟨_, rfl⟩
      have hpc := pc_start hlf hlk hnd hrn
      rw [← hC] at hc1 hc2 c2 hpc hqb
      subst hc1
      have hrow4 := hrow.kept hgr (.inr (row_low hrow (Nat.lt_succ_self _)).symm)
      have HX : Hid (w4.ranges Tryd.prog 3 (plainElem Tryd.prog 3) b r n E (fun z => left z && !z.sameKey (.int .i64 (q : Int))) cnt' ∧ PT.Pc l s q C ∧ w4.ownsRow (r + 1) 3 1 u s.length (ints s) ∧ r + 1 ≤ w4.heap.size ∧ Below w.heap.size w w4) := ⟨hrg4, hpc, hrow4, by omega, hbe.grown hgr hbe.size (fun j hj => by cases hj; exact HS.out.1)⟩
      have HLt : Hid (cnt' < cnt) := hlt
      have HG0 : Hid (Gone left (PT.wsum s) l ∧ left (.int .i64 (q : Int)) = true ∧ q % 2 = 1 ∧ q * C ≤ 2000 ∧ C = PT.wsum l (q : Int)) := ⟨hlf, hlk, hq2, hqb, hC⟩
      clear hrow4 hrg4 hlt hgr hsz4 hrg hlf hrow hsz hbe HR hwx hwc hlk hat hC hnd hrn hpc hqb
      go_wp2
      clear hen
      go_loopg [3, 5] C (fun gk lv tv wx => ∃ (t : Nat) (s' : List Int) (u' : Value), lv = u' ∧ tv = .int .i64 (t : Int) ∧ Hid (gk = t ∧ t ≤ C ∧ (∀ m : Int, m ≠ q → PT.wsum s' m = PT.wsum s m) ∧ wx.ranges Tryd.prog 3 (plainElem Tryd.prog 3) b r n E (fun z => left z && !z.sameKey (.int .i64 (q : Int))) cnt' ∧ PT.Pc l s' q t ∧ wx.ownsRow (r + 1) 3 1 u' s'.length (ints s') ∧ r + 1 ≤ wx.heap.size ∧ Below w.heap.size w wx))
      case atStart => exact ⟨C, s, u, rfl, rfl, rfl, Nat.le_refl _, fun _ _ => rfl, HX.out⟩
      case round =>
        clear HX
        obtain ⟨t, s', u', hu, rfl, HR⟩ := hrel
        have hu2 := hu.symm
        clear hu
        subst hu2
        obtain ⟨hgk, htC, hot, hrg, hpc, hrow, hsz, hbe⟩ := HR.out
        have HX : Hid (wr.ranges Tryd.prog 3 (plainElem Tryd.prog 3) b r n E (fun z => left z && !z.sameKey (.int .i64 (q : Int))) cnt' ∧ PT.Pc l s' q t ∧ wr.ownsRow (r + 1) 3 1 u' s'.length (ints s') ∧ r + 1 ≤ wr.heap.size ∧ Below w.heap.size w wr) := ⟨hrg, hpc, hrow, hsz, hbe⟩
        have HGk : Hid (gk = t ∧ ∀ m : Int, m ≠ q → PT.wsum s' m = PT.wsum s m) := ⟨hgk, hot⟩
        have HLn : Hid (s'.length ≤ 2001) := PT.nodup_len hpc.nd hpc.rg
        by_cases h0 : t = 0
        · have ti : decide (0 < (t : Int)) = false := decide_eq_false (by omega)
          have HN : Hid (Gone (fun z => left z && !z.sameKey (.int .i64 (q : Int))) (PT.wsum s') l) := HG0.out.1.step HG0.out.2.1 (by have := hpc.wn; omega) hot
          subst h0
          clear HR hgk htC hot hrg hpc hrow hsz hbe
          go_wp2
          go_roundw
          case rel => exact ⟨_, cnt', s', u', rfl, HX.out.1, HN.out, HX.out.2.1.nd, HX.out.2.1.rg, HX.out.2.2.1, HX.out.2.2.2.1, HX.out.2.2.2.2⟩
          case measure => rw [HX.out.1.left_eq, HM.out]; exact HLt.out
        · have ti : decide (0 < (t : Int)) = true := decide_eq_true (by omega)
          obtain ⟨s1, s2, s3, s4, s5⟩ := hpc.step (by omega) HG0.out.2.2.1 (by rw [← HG0.out.2.2.2.2]; exact HG0.out.2.2.2.1)
          have HLp : Hid (∀ W, Calls Tryd.prog 53 #[.int .i64 (t : Int)] W fun e w' => e = .returned (.int .i64 (PT.p2 t : Int)) ∧ w' = W) := fun W => leastPower_any t W (by omega) (by omega)
          obtain ⟨p, hp⟩ : ∃ p, p = PT.p2 t := ⟨_, rfl⟩
          rw [← hp] at s1 s2 s3 s4 s5 HLp
          obtain ⟨y, hy⟩ : ∃ y, y = q * p := ⟨_, rfl⟩
          rw [← hy] at s1 s2 s5
          have hmul : (q : Int) * (p : Int) = (y : Int) := by rw [hy, Int.natCast_mul]
          have hsub : (t : Int) - (p : Int) = ((t - p : Nat) : Int) := by omega
          have HSt : Hid (PT.Pc l (s' ++ [(y : Int)]) q (t - p) ∧ (∀ m : Int, m ≠ q → PT.wsum (s' ++ [(y : Int)]) m = PT.wsum s' m) ∧ 1 ≤ p ∧ p ≤ t) := ⟨s1, s2, s3, s4⟩
          have htb : t ≤ 2000 := by omega
          have hpb : p ≤ 2000 := by omega
          clear HR hgk hot hrg hpc hrow hsz hbe s1 s2 hp hy
          go_wp2_with fail
          refine (HLp.out _).mono ?_
          rintro e w5 ⟨rfl, hw5⟩
          rw [hw5]
          clear hw5 w5 HLp
          obtain ⟨bx, hbx⟩ : ∃ b, wr.heap.size = b := ⟨_, rfl⟩
          obtain ⟨W5, hW5⟩ : ∃ W, wr.alloc (.cells #[.int .i64 (y : Int)] 3) = W := ⟨_, rfl⟩
          have kb := below_one wr (.cells #[.int .i64 (y : Int)] 3)
          have C5 := Cl.new [.int .i64 (y : Int)] 3 wr
          rw [hW5] at kb C5
          rw [hbx] at C5
          have HC5 : Hid (Cl bx [.int .i64 (y : Int)] 3 W5) := C5
          have HX5 : Hid (W5.ranges Tryd.prog 3 (plainElem Tryd.prog 3) b r n E (fun z => left z && !z.sameKey (.int .i64 (q : Int))) cnt' ∧ W5.ownsRow (r + 1) 3 1 u' s'.length (ints s') ∧ r + 1 ≤ W5.heap.size ∧ Below w.heap.size w W5) := ⟨HX.out.1.kept (rg_below kb) (by simp) (by simp), row_keptB HX.out.2.2.1 kb, by have := kb.size; have := HX.out.2.2.2.1; omega, HX.out.2.2.2.2.trans (kb.mono HX.out.2.2.2.2.size)⟩
          clear kb C5 HX
          go_wp2_with (at_builtin; refine wpList_append_own _ rfl _ _ 36 rfl (r + 1) 3 k0 (.int .i64 0) 1 8 Tryd.underlying36 HP.out.1 HP.out.2.1 HP.out.2.2.1 HP.out.2.2.2 rfl (by decide) u' s'.length (ints s') rfl HX5.out.2.1 ⟨bx, 0, none⟩ 1 1 [.int .i64 (y : Int)] rfl rfl (own_news HC5.out) (by simp [Value.oneCell']) (by have := HLn.out; simp only [maxLen]; omega) (by have := HLn.out; omega) HX5.out.2.2.1 ?_; intro v' w7 hown' hgrow _; have HX7 : Hid (w7.ranges Tryd.prog 3 (plainElem Tryd.prog 3) b r n E (fun z => left z && !z.sameKey (.int .i64 (q : Int))) cnt' ∧ w7.ownsRow (r + 1) 3 1 v' (s' ++ [(y : Int)]).length (ints (s' ++ [(y : Int)])) ∧ r + 1 ≤ w7.heap.size ∧ Below w.heap.size w w7) := ⟨HX5.out.1.kept hgrow (row_low HX5.out.2.1 (by have := HS.out.2; omega)) (row_low HX5.out.2.1 (Nat.lt_succ_self _)), by rw [← ints_one1, List.length_append]; exact hown', by have := hgrow.size; have := HX5.out.2.2.1; omega, HX5.out.2.2.2.grown hgrow HX5.out.2.2.2.size (fun j hj => by have := (HX5.out.2.1.lt j hj).1; have := HS.out.1; omega)⟩; clear hown' hgrow)
          go_roundg (t - p)
          case rel => exact ⟨t - p, s' ++ [(y : Int)], v', rfl, by first | rfl | go_num, rfl, by omega, fun m hm => (HSt.out.2.1 m hm).trans (HGk.out.2 m hm), HX7.out.1, HSt.out.1, HX7.out.2.1, HX7.out.2.2.1, HX7.out.2.2.2⟩
          case measure => have := HGk.out.1; have := HSt.out.2.2; omega

end Go.Proofs.YtmifenflbaohnaaDoor
