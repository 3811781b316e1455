/- The program: timesOfOdds, falling. -/
import Derived.Test.YtmifenflbaohnaaDoorPuC
import Derived.Test.YtmifenflbaohnaaDoorShelfR
import Derived.Maps.OwnSet
import Derived.Maps.OwnOps
import Derived.Maps.RangeWalk
import Derived.Sort.OwnSortedInts
import Derived.Deep.LoopGhost
set_option linter.unusedSimpArgs false
set_option linter.unusedVariables false
set_option maxRecDepth 100000
namespace Go.Proofs.YtmifenflbaohnaaDoor
open Go.RowKit Go.Maps Go.Sort

theorem lawQ : Keyed Tryd.prog 3 := int_keyed Tryd.underlying3
theorem qm_below {H : Type} {P : Program} {k : TypeId} {R : Value → Option (DataW H × List MemPlace)} {b n : Nat} {D : DataW H} {w w' : World} (h : w.ownsMap P k R b n D) (c : Below w.heap.size w w') : w'.ownsMap P k R b n D := by
  have hlt := h.lt
  obtain ⟨es, clock, hb, r⟩ := h
  exact ⟨es, clock, (c.block b hlt).trans hb, r⟩
/-- How often each odd number is there. -/
def Tm (E : DataW Unit) (l : List Int) : Prop := ∀ n : Int, (0 < PT.wsum l n → Maps.has E (.int .i64 n) = true ∧ ∀ zd, E.atKey (.int .i64 n) zd = .lit (.int .i64 (PT.wsum l n : Int))) ∧ (PT.wsum l n = 0 → Maps.has E (.int .i64 n) = false)
theorem Tm.start : Tm (.map []) [] := fun n => ⟨fun h => by simp [PT.wsum] at h, fun _ => rfl⟩
theorem Tm.look {E : DataW Unit} {l : List Int} (h : Tm E l) (n : Int) {c : Int} (hc : E.atKey (.int .i64 n) (.lit (.int .i64 0)) = .lit (.int .i64 c)) : c = (PT.wsum l n : Int) := by
  rcases Nat.eq_zero_or_pos (PT.wsum l n) with h0 | h0
  · rw [atKey_of_not_has ((h n).2 h0)] at hc
    simp at hc
    omega
  · rw [((h n).1 h0).2] at hc
    simp at hc
    omega
theorem Tm.put {E : DataW Unit} {l : List Int} {i x : Nat} (h : Tm E (l.take i)) (hE : IsMap E) (hi : i < l.length) (hx : l.getD i 0 = (x : Int)) (h1 : 1 ≤ x) :
    Tm (E.put (.int .i64 (PT.od x : Int)) (.lit (.int .i64 ((PT.wsum (l.take i) (PT.od x : Int) + PT.p2 x : Nat) : Int)))) (l.take (i + 1)) := fun n => by
  have hw := PT.wsum_take (n := n) hi
  rw [hx, Int.toNat_natCast] at hw
  have hp := (PT.od_p2 x h1).2.2.1
  by_cases e : (PT.od x : Int) = n
  · rw [if_pos e] at hw
    subst e
    refine ⟨fun _ => ⟨has_put_same hE (by exact trivial) _, fun zd => ?_⟩, fun h0 => by omega⟩
    rw [atKey_put_same hE (by exact trivial), hw]
  · rw [if_neg e] at hw
    have hw : PT.wsum (l.take (i + 1)) n = PT.wsum (l.take i) n := by omega
    have hne : (Lit.int .i64 n) ≠ .int .i64 (PT.od x : Int) := by intro h; injection h with _ h; exact e h.symm
    rw [hw, has_put_other hne]
    refine ⟨fun h0 => ⟨((h n).1 h0).1, fun zd => ?_⟩, fun h0 => (h n).2 h0⟩
    rw [atKey_put_other hne, ((h n).1 h0).2]
theorem Tm.val {E : DataW Unit} {l : List Int} (h : Tm E l) (n c : Int) (hc : ∀ zd, E.atKey (.int .i64 n) zd = .lit (.int .i64 c)) : c = (PT.wsum l n : Int) ∧ 0 < PT.wsum l n := by
  rcases Nat.eq_zero_or_pos (PT.wsum l n) with h0 | h0
  · have h1 := (h n).2 h0
    rw [has_true_of_atKey hc] at h1
    cases h1
  · refine ⟨?_, h0⟩
    have h1 := ((h n).1 h0).2 (.lit (.int .i64 0))
    rw [hc] at h1
    simpa using h1

set_option maxRecDepth 100000 in
set_option maxHeartbeats 2000000 in
theorem timesOfOdds_any (v : Value) (l : List Int) (w : World) (h : IS w v l) (hl : l.length ≤ 1000) (hr : ∀ j, j < l.length → 1 ≤ l.getD j 0 ∧ l.getD j 0 ≤ 2000) :
    Calls Tryd.prog 50 #[v] w fun e w' => ∃ (b n : Nat) (E : DataW Unit), e = .returned (.map (some b)) ∧ w'.ownsMap Tryd.prog 3 (plainElem Tryd.prog 3) b n E ∧ n ≤ 1000 ∧ w.heap.size ≤ b ∧ Tm E l ∧ Below w.heap.size w w' := by
  have hmm := @run_makeMap Tryd.prog
  obtain ⟨aa, g, o, cap, rfl, ha, hc, hg⟩ := h.shape
  have HC : Hid (∀ i, i < l.length → w.cell? ⟨g, o + i, none⟩ = some (.int .i64 (l.getD i 0))) := hc
  have HA : Hid (0 < l.length → aa = some ⟨g, o, none⟩ ∧ g < w.heap.size) := fun h => ⟨ha h, hg h⟩
  have HXs : Hid (∀ i, i < l.length → ∃ x : Nat, l.getD i 0 = (x : Int) ∧ 1 ≤ x ∧ x ≤ 2000) := fun i hi => ⟨(l.getD i 0).toNat, by have := hr i hi; omega, by have := hr i hi; omega, by have := hr i hi; omega⟩
  have HWs : Hid (∀ i n, i ≤ l.length → PT.wsum (l.take i) n ≤ 2000 * i) := fun i n hi => PT.wsum_le hr i hi
  obtain ⟨N, hN⟩ : ∃ N, N = l.length := ⟨_, rfl⟩
  have HN : Hid (N = l.length) := hN
  rw [← hN] at hl
  rw [← hN]
  clear h ha hc hN hr hg
  have M1 := World.ownsMap_made (H := Unit) w Tryd.prog 3 (plainElem Tryd.prog 3)
  obtain ⟨W1, hW1⟩ : ∃ W, W = w.alloc (.map #[] 0) := ⟨_, rfl⟩
  have K1 : Below w.heap.size w W1 := by rw [hW1]; exact below_one w _
  rw [← hW1] at M1
  have HW1 : Hid (W1.ownsMap Tryd.prog 3 (plainElem Tryd.prog 3) w.heap.size 0 (.map [] : DataW Unit) ∧ Below w.heap.size w W1) := ⟨M1, K1⟩
  clear M1 K1
  go_enter Tryd.func50, Tryd.ntmps50
  go_wp2
  rw [← hW1]
  clear hW1
  go_loopg [10] N (fun gk iv wx => ∃ (i n : Nat) (E : DataW Unit), iv = .int .i64 (i : Int) ∧ Hid (gk = N - i ∧ i ≤ N ∧ n ≤ i ∧ wx.ownsMap Tryd.prog 3 (plainElem Tryd.prog 3) w.heap.size n E ∧ Tm E (l.take i) ∧ Below w.heap.size w wx))
  case atStart => exact ⟨0, 0, .map [], rfl, rfl, by omega, by omega, HW1.out.1, Tm.start, HW1.out.2⟩
  case round =>
    clear HW1
    obtain ⟨i, n, E, rfl, HR⟩ := hrel
    obtain ⟨h1, h2, h3, h4, h5, h6⟩ := HR.out
    by_cases hi : i < N
    · have ti : decide ((i : Int) < (N : Int)) = true := decide_eq_true (by omega)
      have hil : i < l.length := by have := HN.out; omega
      obtain ⟨rfl, hgl⟩ := HA.out (by omega)
      obtain ⟨x, hx, hx1, hx2⟩ := HXs.out i hil
      have c0 : wr.cell? ⟨g, o + i, none⟩ = some (.int .i64 (x : Int)) := by rw [h6.cell (p := ⟨g, o + i, none⟩) hgl, HC.out i hil, hx]
      obtain ⟨p, hp⟩ : ∃ p, p = PT.p2 x := ⟨_, rfl⟩
      obtain ⟨q, hq⟩ : ∃ q, q = PT.od x := ⟨_, rfl⟩
      obtain ⟨e1, e2, e3, e4⟩ := PT.od_p2 x hx1
      have hple := PT.p2_le (x := x) (by omega)
      have HLp : Hid (∀ W, Calls Tryd.prog 53 #[.int .i64 (x : Int)] W fun e w' => e = .returned (.int .i64 (p : Int)) ∧ w' = W) := fun W => by rw [hp]; exact leastPower_any x W hx1 hx2
      have hdiv : (x : Int) / (p : Int) = (q : Int) := by
        rw [hp, hq, ← Int.natCast_ediv]
        congr 1
        have := Nat.mul_div_cancel_left (PT.od x) e3
        rw [e1] at this
        exact this
      have hp0 : ((p : Int) == 0) = false := beq_eq_false_iff_ne.2 (by omega)
      have hpn : ¬ (p = 0) := by omega
      have hpn' : ¬ ((p : Int) = 0) := by omega
      have hq1 : q ≤ 2000 := by
        have := Nat.mul_le_mul_right (PT.od x) e3
        rw [hq]; omega
      have hws := HWs.out i (q : Int) (by omega)
      obtain ⟨W, hW⟩ : ∃ W, W = PT.wsum (l.take i) (q : Int) := ⟨_, rfl⟩
      have HLk : Hid (∀ c, E.atKey (.int .i64 (q : Int)) (.lit (.int .i64 0)) = .lit (.int .i64 c) → c = (W : Int)) := fun c hc => by rw [hW]; exact h5.look _ hc
      have HPt : Hid (Tm (E.put (.int .i64 (q : Int)) (.lit (.int .i64 ((W : Int) + (p : Int))))) (l.take (i + 1))) := by
        have := h5.put h4.isMap hil hx hx1
        rw [← hp, ← hq, ← hW, Int.natCast_add] at this
        exact this
      have hkey : keyOf Tryd.prog 3 (.int .i64 (q : Int)) = some (.int .i64 (q : Int)) := keyOf_int_mk Tryd.underlying3 (by simp [Lit.wf, IntKind.min, IntKind.max, IntKind.signed, IntKind.bits]; omega)
      have HKey : Hid (keyOf Tryd.prog 3 (.int .i64 (q : Int)) = some (.int .i64 (q : Int))) := hkey
      have hWb : W ≤ 2000000 := by rw [hW]; have : 2000 * i ≤ 2000 * 1000 := Nat.mul_le_mul_left _ (by omega); omega
      have hpb : p ≤ 2000 := by omega
      have HM : Hid (wr.ownsMap Tryd.prog 3 (plainElem Tryd.prog 3) w.heap.size n E ∧ n ≤ 1000 ∧ Below w.heap.size w wr) := ⟨h4, by omega, h6⟩
      have HK : Hid (gk = N - i ∧ n ≤ i) := ⟨h1, h3⟩
      have HWf : Hid ((Lit.int .i64 ((W : Int) + (p : Int))).wf = true) := by
        show _ = _
        simp [Lit.wf, IntKind.min, IntKind.max, IntKind.signed, IntKind.bits]; omega
      clear HR h1 h3 h4 h5 h6 hx hp hq e1 e2 e3 e4 hW hws hkey hple
      go_wp2_with fail
      refine (HLp.out _).mono ?_
      rintro e w1 ⟨rfl, hw1⟩
      rw [hw1]
      clear hw1 w1 c0 HLp
      go_wp2_with (first
        | (at_lookup; refine wpList_lookup_own_int _ rfl _ _ 80 rfl 3 3 .i64 lawQ Tryd.underlying80 Tryd.underlying3 (Tryd.zeroValue3 _) w.heap.size n E rfl HM.out.1 _ _ rfl HKey.out ?_; intro c hat _; obtain rfl := HLk.out c hat; clear hat)
        | (at_mapUpdate; refine wpList_mapUpdate_own _ rfl _ _ _ 80 rfl 3 3 lawQ Tryd.underlying80 (plainElem Tryd.prog 3) w.heap.size n _ rfl HM.out.1 (by have := HM.out.2.1; unfold maxLen; omega) _ _ _ rfl rfl HKey.out _ [] (plainElem_int Tryd.underlying3 HWf.out) ?_; intro w4 hown4 hgrow4))
      have HE : Hid (w4.ownsMap Tryd.prog 3 (plainElem Tryd.prog 3) w.heap.size (n + 1) (E.put (.int .i64 (q : Int)) (.lit (.int .i64 ((W : Int) + (p : Int))))) ∧ Below w.heap.size w w4) := ⟨hown4, HM.out.2.2.grown hgrow4 HM.out.2.2.size (fun j hj => by cases hj; exact Nat.le_refl _)⟩
      clear hown4 hgrow4
      go_roundg (N - (i + 1))
      case rel => exact ⟨i + 1, n + 1, _, by go_num, rfl, by omega, by have := HK.out.2; omega, HE.out.1, HPt.out, HE.out.2⟩
      case measure => have := HK.out.1; omega
    · have ti : decide ((i : Int) < (N : Int)) = false := decide_eq_false (by omega)
      have HF : Hid (wr.ownsMap Tryd.prog 3 (plainElem Tryd.prog 3) w.heap.size n E ∧ n ≤ 1000 ∧ Tm E l ∧ Below w.heap.size w wr) := by
        rw [List.take_of_length_le (by have := HN.out; omega)] at h5
        exact ⟨h4, by omega, h5, h6⟩
      clear HR h1 h3 h4 h5 h6
      go_wp2
      go_ret
      exact ⟨_, n, E, rfl, HF.out.1, HF.out.2.1, Nat.le_refl _, HF.out.2.2⟩

set_option maxHeartbeats 1000000 in
theorem sortN_len (w : World) : Calls Tryd.prog 81 #[.int .u64 0] w fun e w' => (∃ v : Int, e = .returned (.int .i64 v)) ∧ w' = w := by
  go_enter Tryd.func81, Tryd.ntmps81
  go_wp2_with fail
  refine (Len64_int 0 w (by omega) (by omega)).mono ?_
  rintro e w' ⟨rfl, rfl⟩
  go_wp2
  go_ret
  exact ⟨⟨_, rfl⟩, rfl⟩
set_option maxHeartbeats 1000000 in
theorem sortN_ins (a : Option Addr) (c : Nat) (w : World) : Calls Tryd.prog 87 #[.slice a 0 c, .int .i64 0, .int .i64 0] w fun e w' => e = .returned (.tuple #[]) ∧ w' = w := by
  go_enter Tryd.func87, Tryd.ntmps87
  go_wp2
  go_loop [6] (fun i => i = .int .i64 1) (fun _ => 0)
  case atStart => rfl
  case round =>
    subst hrel
    go_wp2
    go_end0
    exact ⟨rfl, rfl⟩
set_option maxHeartbeats 1000000 in
theorem sortN_pdq (a : Option Addr) (c : Nat) (lim : Int) (w : World) : Calls Tryd.prog 80 #[.slice a 0 c, .int .i64 0, .int .i64 0, .int .i64 lim] w fun e w' => e = .returned (.tuple #[]) ∧ w' = w := by
  go_enter Tryd.func80, Tryd.ntmps80
  go_wp2
  go_loop [1, 2, 3, 8, 9] (fun av bv lv x1 x2 => av = .int .i64 0 ∧ bv = .int .i64 0 ∧ lv = .int .i64 lim ∧ x1 = .bool true ∧ x2 = .bool true) (fun _ _ _ _ _ => 0)
  case atStart => exact ⟨rfl, rfl, rfl, rfl, rfl⟩
  case round =>
    obtain ⟨rfl, rfl, rfl, rfl, rfl⟩ := hrel
    go_wp2_with fail
    refine (sortN_ins a c _).mono ?_
    rintro e w1 ⟨rfl, rfl⟩
    go_wp2
    exact bodyPost_ret (results_none rfl _ _ _) rfl ⟨rfl, rfl⟩
set_option maxHeartbeats 1000000 in
theorem sortN_any (w : World) : Calls Tryd.prog 69 #[.slice none 0 0] w fun e w' => e = .returned (.tuple #[]) ∧ w' = w := by
  go_enter Tryd.func69, Tryd.ntmps69
  go_wp2_with fail
  refine (sortN_len w).mono ?_
  rintro e w1 ⟨⟨lim, rfl⟩, rfl⟩
  go_wp2_with fail
  refine (sortN_pdq none 0 lim w1).mono ?_
  rintro e w2 ⟨rfl, rfl⟩
  go_wp2
  go_end0
  exact ⟨rfl, rfl⟩
set_option maxHeartbeats 1000000 in
theorem revN_any (w : World) : Calls Tryd.prog 70 #[.slice none 0 0] w fun e w' => e = .returned (.tuple #[]) ∧ w' = w := by
  go_enter Tryd.func70, Tryd.ntmps70
  go_wp2
  go_loop [2, 3] (fun i j => i = .int .i64 0 ∧ j = .int .i64 (-1)) (fun _ _ => 0)
  case atStart => exact ⟨rfl, rfl⟩
  case round =>
    obtain ⟨rfl, rfl⟩ := hrel
    go_wp2
    go_end0
    exact ⟨rfl, rfl⟩

set_option maxRecDepth 100000 in
set_option maxHeartbeats 1000000 in
theorem falling_any (base : Nat) (v : Value) (s : List Int) (w : World) (h : w.ownsRow base 3 1 v s.length (ints s)) (hl : s.length ≤ 10000) (hb : base ≤ w.heap.size) :
    Calls Tryd.prog 52 #[v] w fun e w' => e = .returned v ∧ Iu base w' v (s.mergeSort fun x y => decide (x ≤ y)).reverse ∧ Below base w w' := by
  obtain ⟨hlen, ⟨rfl, h0⟩ | ⟨g, cap, cur, rfl, e2, e3, e4, e5, e6, e7⟩⟩ := h
  · obtain rfl : s = [] := List.eq_nil_of_length_eq_zero h0
    go_enter Tryd.func52, Tryd.ntmps52
    go_wp2_with fail
    refine (sortN_any w).mono ?_
    rintro e w1 ⟨rfl, rfl⟩
    go_wp2_with fail
    refine (revN_any w1).mono ?_
    rintro e w2 ⟨rfl, rfl⟩
    go_wp2
    go_ret
    exact ⟨rfl, by simpa using Iu.nil base _, Below.refl _ _⟩
  · have hblk : g < w.heap.size := (Array.getElem?_eq_some_iff.1 e3).1
    have hH : Holds (Value.int .i64) w g 0 s.toArray := holds_of_blockI e3 (by rw [Nat.mul_one] at e7; exact e7)
    have HS : Hid (Calls Tryd.prog 69 #[.slice (some ⟨g, 0, none⟩) s.length cap] w fun e w' => e = .returned (.tuple #[]) ∧ ∃ n os, w' = grow (putRow (Value.int .i64) (Sort.ahead w n) g 0 (s.mergeSort fun x y => decide (x ≤ y)).toArray) os) := Tryd.slices_Sort_int g 0 cap s w hH hblk (by omega)
    obtain ⟨t, ht⟩ : ∃ t, t = s.mergeSort fun x y => decide (x ≤ y) := ⟨_, rfl⟩
    have htl : t.length = s.length := by rw [ht]; exact List.length_mergeSort _
    have HRow : Hid (∀ n os, (grow (putRow (Value.int .i64) (Sort.ahead w n) g 0 t.toArray) os).ownsRow base 3 1 (.slice (some ⟨g, 0, none⟩) s.length cap) s.length (t.map (Value.int .i64)) ∧ Below base w (grow (putRow (Value.int .i64) (Sort.ahead w n) g 0 t.toArray) os)) := fun n os =>
      ⟨ownsRow_sortedI htl e2 e3 e4 e5 e6, (Below.refl base w).grown (grownBy_sortedI _) hb (fun j hj => by cases hj; exact e2)⟩
    rw [← ht] at HS ⊢
    obtain ⟨N, hN⟩ : ∃ N, N = s.length := ⟨_, rfl⟩
    rw [← hN] at HS HRow htl hl ⊢
    clear e3 e4 e5 e6 e7 hH hblk ht hlen hN
    go_enter Tryd.func52, Tryd.ntmps52
    go_wp2_with fail
    refine HS.out.mono ?_
    rintro e w1 ⟨rfl, n1, os1, hw1⟩
    have hR1 := HRow.out n1 os1
    rw [← hw1] at hR1
    clear hw1 HRow HS
    obtain ⟨⟨hlen, ⟨q, _⟩ | ⟨g', cap', cur, q, e2', e3, e4, e5, e6, e7⟩⟩, hB1⟩ := hR1
    · cases q
    cases q
    have hH : Holds (Value.int .i64) w1 g 0 t.toArray := holds_of_blockI e3 (by rw [Nat.mul_one] at e7; rw [htl]; exact e7)
    have HRv : Hid (Calls Tryd.prog 70 #[.slice (some ⟨g, 0, none⟩) N cap] w1 fun e w' => e = .returned (.tuple #[]) ∧ ∃ n, w' = putRow (Value.int .i64) (Sort.ahead w1 n) g 0 t.reverse.toArray) := by
      have := Tryd.slices_Reverse_int g 0 cap t w1 hH (by omega)
      rw [htl] at this
      exact this
    have HEnd : Hid (∀ n, Iu base (putRow (Value.int .i64) (Sort.ahead w1 n) g 0 t.reverse.toArray) (.slice (some ⟨g, 0, none⟩) N cap) t.reverse ∧ Below base w (putRow (Value.int .i64) (Sort.ahead w1 n) g 0 t.reverse.toArray)) := fun n => by
      have h1 := ownsRow_sortedI (w := w1) (base := base) (n := n) (os := #[]) (ss := t.reverse) (ts := t.reverse) rfl e2' e3 (by rw [List.length_reverse, htl]; exact e4) e5 e6
      have h2 := grownBy_sortedI (w := w1) (g := g) (n := n) (os := #[]) t.reverse.toArray
      rw [grow_empty] at h1 h2
      rw [List.length_reverse, htl] at h1
      refine ⟨?_, hB1.grown h2 (Nat.le_trans hb hB1.size) (fun j hj => by cases hj; exact e2')⟩
      have hi := IS.ownP (l := t.reverse) (by rw [List.length_reverse, htl]) h1
      obtain ⟨aa, gg, oo, cc, i1, i2, i3, i4⟩ := hi.shape
      refine ⟨aa, gg, oo, cc, i1, i2, i3, fun h => ⟨i4 h, ?_⟩⟩
      have := i2 h
      rw [this] at i1
      injection i1 with j1
      have j1 := Option.some.inj j1
      injection j1 with j1
      omega
    clear hH e3 e4 e5 e6 e7 hB1 hlen htl
    go_wp2_with fail
    refine HRv.out.mono ?_
    rintro e w2 ⟨rfl, n2, hw2⟩
    have hE := HEnd.out n2
    rw [← hw2] at hE
    have HF : Hid (Iu base w2 (.slice (some ⟨g, 0, none⟩) N cap) t.reverse ∧ Below base w w2) := hE
    clear hw2 hE HEnd HRv
    go_wp2
    go_ret
    exact ⟨rfl, HF.out⟩

end Go.Proofs.YtmifenflbaohnaaDoor
