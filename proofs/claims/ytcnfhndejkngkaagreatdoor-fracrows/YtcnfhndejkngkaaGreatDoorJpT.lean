import Derived.Test.YtcnfhndejkngkaaGreatDoorJpR
import Derived.Test.YtcnfhndejkngkaaGreatDoorJpF
import Derived.Test.YtcnfhndejkngkaaGreatDoorJpJ
section
set_option linter.unusedSimpArgs false
set_option linter.unusedVariables false
set_option maxRecDepth 100000
namespace Go.Proofs.YtcnfhndejkngkaaGreatDoor
open Go.RowKit
theorem Less_of (x y : Int) (w : World) :
    Calls Tryz.prog 190 #[.int .i64 x, .int .i64 y] w fun e w' => e = .returned (.bool (decide (x < y))) ∧ ∃ q, w' = w.drewN q := by
  have h1 : (x != x) = false := by simp
  go_enter Tryz.func190, Tryz.ntmps190
  go_wp2
  go_ret
  exact ⟨rfl, 0, rfl⟩
theorem Len_of (x : Int) (w : World) (h0 : 0 ≤ x) (h1 : x ≤ 100) :
    Calls Tryz.prog 180 #[.int .u64 x] w fun e w' => e = .returned (.int .i64 (Lib.bitLen x.toNat)) ∧ w' = w := by
  go_enter Tryz.func180, Tryz.ntmps180
  go_wp2_with fail
  refine (Len64_int x w h0 (by omega)).mono ?_
  rintro e w' ⟨rfl, rfl⟩
  go_wp2
  go_ret
  exact ⟨rfl, rfl⟩
structure Ord (a : Option Addr) (k : Nat) (l : List Int) (w : World) : Prop where
  cell : ∀ g j, a = some ⟨g, 0, none⟩ → j < k → g < w.heap.size ∧ w.cell? ⟨g, j, none⟩ = some (.int .i64 (l.getD j 0))
  some : 0 < k → ∃ g, a = some ⟨g, 0, none⟩
  ord : ∀ j, j + 1 < k → l.getD j 0 ≤ l.getD (j + 1) 0
theorem Ord.below {a : Option Addr} {k : Nat} {l : List Int} {w w' : World} (h : Ord a k l w) (b : Below w.heap.size w w') : Ord a k l w' :=
  ⟨fun g j e hj => ⟨Nat.lt_of_lt_of_le (h.cell g j e hj).1 b.size, (b.cell (p := ⟨g, j, none⟩) (h.cell g j e hj).1).trans (h.cell g j e hj).2⟩, h.some, h.ord⟩
set_option maxHeartbeats 1000000 in
theorem insertion_ord (a : Option Addr) (k c : Nat) (l : List Int) (w : World) (hk : k ≤ 12) (hc : k ≤ c) (ho : Ord a k l w) :
    Calls Tryz.prog 184 #[.slice a k c, .int .i64 0, .int .i64 k] w fun e w' => (∃ v, e = .returned v) ∧ Below w.heap.size w w' := by
  have HO : Hid (Ord a k l w) := ho
  clear ho
  go_enter Tryz.func184, Tryz.ntmps184
  go_wp2
  go_loopw [6] (fun iv wx => ∃ i : Nat, iv = .int .i64 i ∧ 1 ≤ i ∧ (i ≤ k ∨ i = 1) ∧ Hid (Below w.heap.size w wx)) (fun iv _ => k - (intOf iv).toNat)
  case atStart => exact ⟨1, rfl, by omega, by omega, Below.refl _ _⟩
  case round =>
    obtain ⟨i, rfl, hi1, hi2, HB⟩ := hrel
    by_cases hlt : i < k
    · obtain ⟨wo, hwo⟩ : ∃ wo, wo = wr := ⟨_, rfl⟩
      subst hwo
      obtain ⟨g, rfl⟩ := HO.out.some (by omega)
      have O2 := HO.out.below HB.out
      have d0 := (O2.cell g (i - 1) rfl (by omega)).2
      have d1 := (O2.cell g i rfl (by omega)).2
      have hor := O2.ord (i - 1) (by omega)
      rw [show i - 1 + 1 = i by omega] at hor
      obtain ⟨x, hx⟩ : ∃ x, x = l.getD (i - 1) 0 := ⟨_, rfl⟩
      obtain ⟨y, hy⟩ : ∃ y, y = l.getD i 0 := ⟨_, rfl⟩
      rw [← hx] at d0 hor
      rw [← hy] at d1 hor
      have hlt2 : decide (y < x) = false := decide_eq_false (by omega)
      have hj0 : decide (0 < i) = true := decide_eq_true (by omega)
      clear hx hy hor O2
      go_wp2
      go_loopw [7] (fun jv wx => jv = .int .i64 i ∧ Hid (wx = wo)) (fun _ _ => 0)
      case atStart => exact ⟨rfl, rfl⟩
      case round =>
        obtain ⟨rfl, HW⟩ := hrel
        have hw := HW.out
        subst hw
        clear HW
        go_wp2
        go_quiet ((go_at_call 190; exact Calls.quiet_of (Less_of y x _)))
        go_wp2
        go_roundw
        case rel => exact ⟨i + 1, by go_num, by omega, by omega, below_drewN' HB.out⟩
        case measure => simp [intOf]; omega
    · go_wp2
      go_end0
      exact ⟨⟨_, rfl⟩, HB.out⟩
set_option maxHeartbeats 1000000 in
theorem pdq_ord (a : Option Addr) (k c : Nat) (l : List Int) (lim : Int) (w : World) (hk : k ≤ 12) (hc : k ≤ c) (ho : Ord a k l w) :
    Calls Tryz.prog 179 #[.slice a k c, .int .i64 0, .int .i64 k, .int .i64 lim] w fun e w' => (∃ v, e = .returned v) ∧ Below w.heap.size w w' := by
  have HO : Hid (Ord a k l w) := ho
  clear ho
  go_enter Tryz.func179, Tryz.ntmps179
  go_wp2
  go_loopw [1, 2, 3, 8, 9] (fun av bv lv x1 x2 wx => av = .int .i64 0 ∧ bv = .int .i64 k ∧ lv = .int .i64 lim ∧ x1 = .bool true ∧ x2 = .bool true ∧ Hid (wx = w)) (fun _ _ _ _ _ _ => 0)
  case atStart => exact ⟨rfl, rfl, rfl, rfl, rfl, rfl⟩
  case round =>
    obtain ⟨rfl, rfl, rfl, rfl, rfl, HW⟩ := hrel
    have hw := HW.out
    subst hw
    clear HW
    go_wp2_with fail
    refine (insertion_ord a k c l wr hk hc HO.out).mono ?_
    rintro e w1 ⟨⟨v, rfl⟩, k1⟩
    have K1 : Hid (Below wr.heap.size wr w1) := k1
    clear k1
    go_wp2
    exact bodyPost_ret (results_none rfl _ _ _) rfl ⟨⟨_, rfl⟩, K1.out⟩
theorem Sort_ord (a : Option Addr) (k c : Nat) (l : List Int) (w : World) (hk : k ≤ 12) (hc : k ≤ c) (ho : Ord a k l w) :
    Calls Tryz.prog 169 #[.slice a k c] w fun e w' => (∃ v, e = .returned v) ∧ Below w.heap.size w w' := by
  have HO : Hid (Ord a k l w) := ho
  clear ho
  go_enter Tryz.func169, Tryz.ntmps169
  go_wp2_with fail
  refine (Len_of k w (by omega) (by omega)).mono ?_
  rintro e w1 ⟨rfl, rfl⟩
  obtain ⟨lim, hlim⟩ : ∃ lim : Int, lim = (Lib.bitLen (Int.toNat k) : Int) := ⟨_, rfl⟩
  rw [← hlim]
  clear hlim
  go_wp2_with fail
  refine (pdq_ord a k c l lim w1 hk hc HO.out).mono ?_
  rintro e w2 ⟨⟨v, rfl⟩, k2⟩
  have K2 : Hid (Below w1.heap.size w1 w2) := k2
  clear k2
  go_wp2
  go_end0
  exact ⟨⟨_, rfl⟩, K2.out⟩
end Go.Proofs.YtcnfhndejkngkaaGreatDoor
end

section
set_option linter.unusedSimpArgs false
set_option linter.unusedVariables false
set_option maxRecDepth 100000
namespace Go.Proofs.YtcnfhndejkngkaaGreatDoor
open Go.RowKit
theorem Tryz.infoPower2 : (Tryz.prog.info? 189).map (fun i => (i.zero, i.size, i.bytes)) = some (some (.agg #[.int .i64 0, .int .i64 0]), 2, 16) := by kernel_rfl
def stepT (acc : List (Int × Int)) (p : Int) : List (Int × Int) :=
  match acc.getLast? with
  | some (q, t) => if q = p then acc.dropLast ++ [(q, t + 1)] else acc ++ [(p, 1)]
  | none => [(p, 1)]
def tly (l : List Int) : List (Int × Int) := l.foldl stepT []
def pvals : List (Int × Int) → List Value
  | [] => []
  | x :: r => .int .i64 x.1 :: .int .i64 x.2 :: pvals r
theorem pvals_append (x y : List (Int × Int)) : pvals (x ++ y) = pvals x ++ pvals y := by
  induction x with
  | nil => rfl
  | cons p t ih => simp only [List.cons_append, pvals, ih]
theorem pvals_len (x : List (Int × Int)) : (pvals x).length = x.length * 2 := by
  induction x with
  | nil => rfl
  | cons p t ih => simp only [pvals, List.length_cons, ih]; omega
theorem tly_succ (l : List Int) (i : Nat) (h : i < l.length) : tly (l.take (i + 1)) = stepT (tly (l.take i)) (l.getD i 0) := by
  rw [List.take_succ_eq_append_getElem h, tly, List.foldl_append, List.getD_eq_getElem?_getD, List.getElem?_eq_getElem h]; rfl
theorem stepT_nil (p : Int) : stepT [] p = [(p, 1)] := rfl
theorem stepT_same (acc : List (Int × Int)) (p t : Int) : stepT (acc ++ [(p, t)]) p = acc ++ [(p, t + 1)] := by simp [stepT]
theorem stepT_new (acc : List (Int × Int)) (q p t : Int) (h : q ≠ p) : stepT (acc ++ [(q, t)]) p = acc ++ [(q, t)] ++ [(p, 1)] := by simp [stepT, h]
def TlyPost (l : List Int) (w : World) (e : Ending) (w' : World) : Prop :=
  ∃ a c, e = .returned (.slice a (tly l).length c) ∧ w'.ownsRow w.heap.size 189 2 (.slice a (tly l).length c) (tly l).length (pvals (tly l)) ∧ Below w.heap.size w w'
structure TL (w : World) (l : List Int) (i : Nat) (a : Option Addr) (m ac : Nat) (wx : World) : Prop where
  len : m = (tly (l.take i)).length
  b : Below w.heap.size w wx
  row : wx.ownsRow w.heap.size 189 2 (.slice a m ac) m (pvals (tly (l.take i)))
  t : ∀ x ∈ tly (l.take i), 0 ≤ x.2 ∧ x.2 ≤ i
set_option maxHeartbeats 1000000 in
theorem tally_ord (a0 : Option Addr) (k c : Nat) (l : List Int) (w : World) (hl : k = l.length) (hk : k ≤ 50) (hkc : k ≤ c)
    (hcell : ∀ g j, a0 = some ⟨g, 0, none⟩ → j < k → g < w.heap.size ∧ w.cell? ⟨g, j, none⟩ = some (.int .i64 (l.getD j 0))) (hsome : 0 < k → ∃ g, a0 = some ⟨g, 0, none⟩) :
    Calls Tryz.prog 170 #[.slice a0 k c] w (TlyPost l w) := by
  obtain ⟨i0, hi, hz0, hz1, hz2⟩ := info_parts Tryz.infoPower2
  have HI : Hid (Tryz.prog.info? 189 = some i0 ∧ i0.zero = some (.agg #[.int .i64 0, .int .i64 0]) ∧ i0.size = 2 ∧ i0.bytes = 16) := ⟨hi, hz0, hz1, hz2⟩
  have HC : Hid (∀ g j, a0 = some ⟨g, 0, none⟩ → j < k → g < w.heap.size ∧ w.cell? ⟨g, j, none⟩ = some (.int .i64 (l.getD j 0))) := hcell
  have HS : Hid (0 < k → ∃ g, a0 = some ⟨g, 0, none⟩) := hsome
  have HL : Hid (k = l.length) := hl
  clear hi hz0 hz1 hz2 hcell hsome hl
  go_enter Tryz.func170, Tryz.ntmps170
  go_wp2
  go_loopw [3, 9] (fun av iv wx => ∃ (i m : Nat) (a : Option Addr) (ac : Nat), i ≤ k ∧ av = .slice a m ac ∧ iv = .int .i64 i ∧ m ≤ i ∧ m ≤ ac ∧ Hid (TL w l i a m ac wx)) (fun _ iv _ => k - (intOf iv).toNat)
  case atStart => exact ⟨0, 0, none, 0, Nat.zero_le _, rfl, rfl, Nat.le_refl _, Nat.le_refl _, rfl, Below.refl _ _, World.ownsRow_nil _ _ _ _, by simp [tly]⟩
  case round =>
    obtain ⟨i, m, a, ac, hi1, rfl, rfl, hmi, hma, HT⟩ := hrel
    have zr := HT.out.b.size
    by_cases hlt : i < k
    · obtain ⟨g, rfl⟩ := HS.out (by omega)
      have hg := (HC.out g i rfl hlt).1
      have hc1 : wr.cell? ⟨g, i, none⟩ = some (.int .i64 (l.getD i 0)) := (HT.out.b.cell (p := ⟨g, i, none⟩) hg).trans (HC.out g i rfl hlt).2
      obtain ⟨p, hp⟩ : ∃ p, p = l.getD i 0 := ⟨_, rfl⟩
      rw [← hp] at hc1
      have HSt : Hid (tly (l.take (i + 1)) = stepT (tly (l.take i)) p) := by rw [hp]; exact tly_succ l i (by have := HL.out; omega)
      clear hp
      obtain ⟨acc, hacc⟩ : ∃ acc, acc = tly (l.take i) := ⟨_, rfl⟩
      have HA : Hid (acc = tly (l.take i)) := hacc
      have hml := HT.out.len
      rw [← hacc] at hml
      rcases List.eq_nil_or_concat acc with h0 | ⟨acc', qt, h0⟩
      · subst h0
        have hm0 : m = 0 := by simpa using hml
        subst hm0
        have HROW : Hid (wr.ownsRow w.heap.size 189 2 (.slice a 0 ac) 0 []) := by
          have := HT.out.row
          rw [← hacc] at this; exact this
        clear hml hacc
        go_wp2_with (at_builtin; refine wpList_append_own _ rfl _ _ 185 rfl w.heap.size 189 i0 (.agg #[.int .i64 0, .int .i64 0]) 2 16 Tryz.underlying185 HI.out.1 HI.out.2.1 HI.out.2.2.1 HI.out.2.2.2 rfl (by decide) (.slice a 0 ac) 0 [] rfl (HROW.out.alloc _) ⟨wr.heap.size, 0, none⟩ 1 1 [.int .i64 p, .int .i64 1] rfl rfl (cell_two_new _ _ _ _) (by simp [Value.oneCell']) (by simp only [maxLen]; omega) (by omega) (by simp; omega) ?_; intro v' w1 hown' hgrow _; obtain ⟨g', cap', rfl⟩ := ownsRow_succ hown')
        have hcap : 0 + 1 ≤ cap' := by
          rcases hown'.2 with ⟨h, _⟩ | ⟨_, _, _, h, _, _, h4, _⟩
          · cases h
          · cases h; exact h4
        have e1 : tly (l.take (i + 1)) = [(p, 1)] := by rw [HSt.out, ← HA.out]; rfl
        have HN : Hid (TL w l (i + 1) (some ⟨g', 0, none⟩) (0 + 1) cap' w1) := by
          refine ⟨by rw [e1]; rfl, (HT.out.b.alloc zr _).grown hgrow (by simp; omega) (fun k e => (HROW.out.lt k e).1), by rw [e1]; exact hown', ?_⟩
          rw [e1]; intro x hx; simp at hx; subst hx; simp; omega
        clear hown' hgrow e1
        go_wp2
        go_roundw
        case rel => exact ⟨i + 1, 0 + 1, some ⟨g', 0, none⟩, cap', by omega, rfl, by go_num, by omega, hcap, HN.out⟩
        case measure => simp [intOf]; omega
      · obtain ⟨q, t⟩ := qt
        rw [List.concat_eq_append] at h0
        subst h0
        obtain ⟨m', rfl⟩ : ∃ m', m = m' + 1 := ⟨acc'.length, by rw [hml]; simp⟩
        have hm' : acc'.length = m' := by simp at hml; omega
        have HROW : Hid (wr.ownsRow w.heap.size 189 2 (.slice a (m' + 1) ac) (m' + 1) (pvals (acc' ++ [(q, t)]))) := by
          have := HT.out.row
          rw [← hacc] at this; exact this
        obtain ⟨ga, rfl⟩ : ∃ ga, a = some ⟨ga, 0, none⟩ := by
          rcases HROW.out.2 with ⟨_, h0⟩ | ⟨ga, _, _, h1, _⟩
          · omega
          · simp only [Value.slice.injEq] at h1; exact ⟨ga, h1.1⟩
        have hq1 : wr.cell? ⟨ga, m' * 2, none⟩ = some (.int .i64 q) := by
          rw [HROW.out.cellAt (m' * 2) (by omega), pvals_append, List.getElem?_append_right (by rw [pvals_len]; omega), pvals_len, hm']
          simp [pvals]
        have hq2 : wr.cell? ⟨ga, m' * 2 + 1, none⟩ = some (.int .i64 t) := by
          rw [HROW.out.cellAt (m' * 2 + 1) (by omega), pvals_append, List.getElem?_append_right (by rw [pvals_len]; omega), pvals_len, hm', show m' * 2 + 1 - m' * 2 = 1 by omega]
          simp [pvals]
        have hq3 := HROW.out.frozenAt (m' * 2 + 1)
        have ht := HT.out.t (q, t) (by rw [← hacc]; simp)
        simp at ht
        have HM : Hid (acc'.length = m') := hm'
        clear hml hacc hm'
        by_cases hqp : q = p
        · subst hqp
          have hqb : (q == q) = true := by simp
          have e1 : tly (l.take (i + 1)) = acc' ++ [(q, t + 1)] := by rw [HSt.out, ← HA.out, stepT_same]
          have HE : Hid (tly (l.take (i + 1)) = acc' ++ [(q, t + 1)]) := e1
          clear e1
          go_wp2
          go_roundw
          case rel =>
            have hs := (HROW.out.stored (m' * 2 + 1) (.int .i64 (t + 1))).1
            have hset : (pvals (acc' ++ [(q, t)])).set (m' * 2 + 1) (.int .i64 (t + 1)) = pvals (acc' ++ [(q, t + 1)]) := by
              rw [pvals_append, pvals_append, List.set_append_right _ _ (by rw [pvals_len, HM.out]; omega), pvals_len, HM.out, show m' * 2 + 1 - m' * 2 = 1 by omega]
              rfl
            rw [hset] at hs
            refine ⟨i + 1, m' + 1, some ⟨ga, 0, none⟩, ac, by omega, rfl, by go_num, by omega, hma, by rw [HE.out]; simp; exact HM.out.symm, HT.out.b.setCell (HROW.out.lt ga rfl).1 _, by rw [HE.out]; exact hs, ?_⟩
            rw [HE.out]; intro x hx
            rcases List.mem_append.1 hx with h | h
            · have := HT.out.t x (by rw [← HA.out]; exact List.mem_append_left _ h); omega
            · simp at h; subst h; simp; omega
          case measure => simp [intOf]; omega
        · have hqb : (q == p) = false := beq_eq_false_iff_ne.2 hqp
          have e1 : tly (l.take (i + 1)) = acc' ++ [(q, t)] ++ [(p, 1)] := by rw [HSt.out, ← HA.out, stepT_new _ _ _ _ hqp]
          have HE : Hid (tly (l.take (i + 1)) = acc' ++ [(q, t)] ++ [(p, 1)]) := e1
          clear e1 hqp
          go_wp2_with (at_builtin; refine wpList_append_own _ rfl _ _ 185 rfl w.heap.size 189 i0 (.agg #[.int .i64 0, .int .i64 0]) 2 16 Tryz.underlying185 HI.out.1 HI.out.2.1 HI.out.2.2.1 HI.out.2.2.2 rfl (by decide) (.slice (some ⟨ga, 0, none⟩) (m' + 1) ac) (m' + 1) (pvals (acc' ++ [(q, t)])) rfl (HROW.out.alloc _) ⟨wr.heap.size, 0, none⟩ 1 1 [.int .i64 p, .int .i64 1] rfl rfl (cell_two_new _ _ _ _) (by simp [Value.oneCell']) (by simp only [maxLen]; omega) (by omega) (by simp; omega) ?_; intro v' w1 hown' hgrow _; obtain ⟨g', cap', rfl⟩ := ownsRow_succ hown')
          have hcap : (m' + 1) + 1 ≤ cap' := by
            rcases hown'.2 with ⟨h, _⟩ | ⟨_, _, _, h, _, _, h4, _⟩
            · cases h
            · cases h; exact h4
          have HN : Hid (TL w l (i + 1) (some ⟨g', 0, none⟩) (m' + 1 + 1) cap' w1) := by
            refine ⟨by rw [HE.out]; simp; exact HM.out.symm, (HT.out.b.alloc zr _).grown hgrow (by simp; omega) (fun k e => (HROW.out.lt k e).1), by rw [HE.out, pvals_append]; exact hown', ?_⟩
            rw [HE.out]; intro x hx
            rcases List.mem_append.1 hx with h | h
            · have := HT.out.t x (by rw [← HA.out]; exact h); omega
            · simp at h; subst h; simp; omega
          clear hown' hgrow
          go_wp2
          go_roundw
          case rel => exact ⟨i + 1, m' + 1 + 1, some ⟨g', 0, none⟩, cap', by omega, rfl, by go_num, by omega, hcap, HN.out⟩
          case measure => simp [intOf]; omega
    · obtain rfl : i = k := by omega
      go_wp2
      go_ret
      have h := HT.out.row
      have h2 := HT.out.len
      rw [HL.out, List.take_length] at h h2
      subst h2
      exact ⟨a, ac, rfl, h, HT.out.b⟩
def FctPost (l : List Int) (w : World) (e : Ending) (w' : World) : Prop :=
  ∃ a c, e = .returned (.tuple #[.slice a (tly l).length c, .agg #[.int .i64 0, .int .i64 0]]) ∧ w'.ownsRow w.heap.size 189 2 (.slice a (tly l).length c) (tly l).length (pvals (tly l)) ∧ Below w.heap.size w w'
end Go.Proofs.YtcnfhndejkngkaaGreatDoor
end
