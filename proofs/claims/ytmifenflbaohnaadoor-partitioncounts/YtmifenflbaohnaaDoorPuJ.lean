/- The program: count, Count. -/
import Derived.Test.YtmifenflbaohnaaDoorPuI
import Derived.Test.YtmifenflbaohnaaDoorLgD
import Derived.Test.YtmifenflbaohnaaDoorJnA
import Derived.Test.YtmifenflbaohnaaDoorSv
import Derived.Test.YtmifenflbaohnaaDoorTxA
import Derived.Deep.LoopGhost
import Derived.BigRegion
set_option linter.unusedSimpArgs false
set_option linter.unusedVariables false
set_option maxRecDepth 100000
namespace Go.Proofs.YtmifenflbaohnaaDoor
open Go.RowKit LgM

theorem pgn_ex (n : Nat) (hn : 1 ≤ n) : ∀ m, n < PT.pgn m → ∃ K, K + 1 ≤ m ∧ (∀ k, k ≤ K → 1 ≤ k → PT.pgn k ≤ n) ∧ n < PT.pgn (K + 1)
  | 0, h => by exact absurd h (by show ¬ n < 0; omega)
  | m + 1, h => by
    rcases Nat.lt_or_ge n (PT.pgn m) with q | q
    · obtain ⟨K, a, b, c⟩ := pgn_ex n hn m q
      exact ⟨K, by omega, b, c⟩
    · exact ⟨m, Nat.le_refl _, fun k hk _ => Nat.le_trans (PT.pgn_lt hk) q, h⟩
theorem nextP_any (g o cap n : Nat) (w : World) (hn1 : 1 ≤ n) (hn2 : n ≤ 2000) (hg : g < w.heap.size) (h : Cts g o n w) :
    Calls Tryd.prog 38 #[.slice (some ⟨g, o, none⟩) n cap] w fun e w' => ∃ v, e = .returned (.agg #[v]) ∧ LN w' v (PT.pt n n) ∧ Below w.heap.size w w' := by
  obtain ⟨K, a, b, c⟩ := pgn_ex n hn1 37 (by show n < 2035; omega)
  exact nextP_core g o cap n K w hn1 hn2 hg h (by omega) b c
theorem Tryd.infoNum : (Tryd.prog.info? 46).map (fun i => (i.zero, i.size, i.bytes)) = some (some (.agg #[.slice none 0 0]), 1, 24) := by kernel_rfl
/-- A row of numbers is written: numbers stay. -/
theorem LN.rowed {w w' : World} {v : Value} {n : Nat} {row : Option Nat} (h : LN w v n) (hg : w.grownBy w' row) (hrow : ∀ g, row = some g → ∃ arr fr, w.heap[g]? = some (.cells arr 46 fr)) : LN w' v n := by
  have hne : ∀ a k c, v = .slice (some a) k c → 0 < k → w'.heap[a.block]? = w.heap[a.block]? := fun a k c e hk => by
    obtain ⟨_, _, _, hty⟩ := h
    obtain ⟨arr, fr, hb⟩ := hty a k c e hk
    refine hg.block _ (Array.getElem?_eq_some_iff.1 hb).1 (fun q => ?_)
    obtain ⟨arr2, fr2, hb2⟩ := hrow _ q.symm
    rw [hb] at hb2
    injection hb2 with hb2
    injection hb2 with _ hb2
    exact absurd hb2 (by decide)
  obtain ⟨k, hk, ⟨aa, g, o, c, e, p, cell, lt⟩, hty⟩ := h
  refine ⟨k, hk, ⟨aa, g, o, c, e, p, fun i hi => ?_, fun hp => Nat.lt_of_lt_of_le (lt hp) hg.size⟩, fun a k' c' e' hp => ?_⟩
  · have hp := p (by omega)
    exact (World.cell?_of_block (a := ⟨g, o + i, none⟩) (hne ⟨g, o, none⟩ _ c (by rw [e, hp]) (by omega))).trans (cell i hi)
  · obtain ⟨arr, fr, hb⟩ := hty a k' c' e' hp
    exact ⟨arr, fr, (hne a k' c' e' hp).trans hb⟩
/-- The row so far. -/
def Lns (w : World) (xs : List Value) : Prop := ∀ j, j < xs.length → ∃ v, xs[j]? = some v ∧ LN w v (PT.pt j j)
theorem own_cts {w : World} {B g k cap : Nat} {xs : List Value} (h : w.ownsRow B 46 1 (.slice (some ⟨g, 0, none⟩) k cap) k xs) (hl : Lns w xs) : Cts g 0 k w ∧ g < w.heap.size := by
  obtain ⟨h1, h2 | ⟨g', cap', cur, e1, e2, e3, e4, e5, e6, e7⟩⟩ := h
  · cases h2.1
  · cases e1
    refine ⟨fun j hj => ?_, (Array.getElem?_eq_some_iff.1 e3).1⟩
    obtain ⟨v, hv, hL⟩ := hl j (by omega)
    refine ⟨v, ?_, hL⟩
    rw [← e7, Nat.mul_one, List.getElem?_take, if_pos hj] at hv
    simp only [World.cell?, e3, Nat.zero_add]
    rw [← Array.getElem?_toList]; exact hv
theorem own_ty {w : World} {B g k : Nat} {v : Value} {xs : List Value} (h : w.ownsRow B 46 1 v k xs) (hb : v.ownBlock = some g) : ∃ arr fr, w.heap[g]? = some (.cells arr 46 fr) := by
  obtain ⟨h1, h2 | ⟨g', cap', cur, e1, e2, e3, e4, e5, e6, e7⟩⟩ := h
  · rw [h2.1] at hb; cases hb
  · rw [e1] at hb
    have : g' = g := Option.some.inj hb
    subst this
    exact ⟨cur, _, e3⟩
theorem ln_shape {w : World} {v : Value} {n : Nat} (h : LN w v n) : ∀ x, some x = v.ownBlock → True := fun _ _ => trivial
theorem one_own {w : World} (v : Value) : (w.alloc (.cells #[v] 46)).ownsRow w.heap.size 46 1 (.slice (some ⟨w.heap.size, 0, none⟩) 1 1) 1 [v] :=
  ⟨rfl, .inr ⟨w.heap.size, 1, #[v], rfl, Nat.le_refl _, World.alloc_heap_new w _, Nat.le_refl _, by simp [maxLen], rfl, rfl⟩⟩

set_option maxRecDepth 100000 in
set_option maxHeartbeats 2000000 in
theorem count_any (n : Nat) (w : World) (hn : n ≤ 2000) :
    Calls Tryd.prog 23 #[.int .i64 (n : Int)] w fun e w' => ∃ v, e = .returned (.agg #[v]) ∧ LN w' v (PT.pt n n) ∧ Below w.heap.size w w' := by
  obtain ⟨k0, hk, hx0, hx1, hx2⟩ := info_parts Tryd.infoNum
  have HP : Hid (Tryd.prog.info? 46 = some k0 ∧ k0.zero = some (.agg #[.slice none 0 0]) ∧ k0.size = 1 ∧ k0.bytes = 24) := ⟨hk, hx0, hx1, hx2⟩
  clear hk hx0 hx1 hx2
  go_enter Tryd.func23, Tryd.ntmps23
  have C0 := Cl.new [.slice none 0 0] 46 w
  have k0' := bel_one w (.cells #[.slice none 0 0] 46)
  obtain ⟨W0, hW0⟩ : ∃ W, w.alloc (.cells #[.slice none 0 0] 46) = W := ⟨_, rfl⟩
  rw [hW0] at k0'
  have HC0 : Hid (Cl w.heap.size [.slice none 0 0] 46 W0 ∧ Below w.heap.size w W0) := by rw [← hW0]; exact ⟨C0, by rw [hW0]; exact k0'⟩
  clear C0 k0'
  go_wp2_with fail
  clear hW0
  refine (Of_any 1 W0 (by omega)).mono ?_
  rintro e w1 ⟨v1, rfl, hv1, k1⟩
  obtain ⟨a1, l1, c1, rfl⟩ := ln_slice hv1
  obtain ⟨W2, hW2⟩ : ∃ W, w1.alloc (.cells #[.slice a1 l1 c1] 46) = W := ⟨_, rfl⟩
  have k2 := bel_one w1 (.cells #[.slice a1 l1 c1] 46)
  have o2 := one_own (w := w1) (.slice a1 l1 c1)
  rw [hW2] at k2 o2
  have HR2 : Hid (W2.ownsRow (w.heap.size + 1) 46 1 (.slice (some ⟨w1.heap.size, 0, none⟩) 1 1) 1 [.slice a1 l1 c1] ∧ Lns W2 [.slice a1 l1 c1] ∧ Cl w.heap.size [.slice none 0 0] 46 W2 ∧ Below w.heap.size w W2) := by
    have hB : Below w.heap.size w w1 := HC0.out.2.trans (k1.mono HC0.out.2.size)
    have hz : w.heap.size + 1 ≤ w1.heap.size := by have := k1.size; have := HC0.out.1.lt; omega
    refine ⟨ownsRow_lower o2 hz, fun j hj => ?_, (HC0.out.1.below k1).below k2, hB.trans (k2.mono hB.size)⟩
    have : j = 0 := by simp at hj; omega
    subst this
    refine ⟨_, rfl, ?_⟩
    have := hv1.below k2
    rw [show PT.pt 0 0 = 1 by rw [PT.pt]; rfl]; exact this
  clear hv1 k1 k2 o2 HC0
  go_wp2
  clear hW2
  go_loopg [3] (n + 1) (fun gk sv wx => ∃ (k g cap : Nat) (xs : List Value), sv = .slice (some ⟨g, 0, none⟩) k cap ∧ k ≤ n + 1 ∧ Hid (gk + k = n + 2 ∧ 1 ≤ k ∧ xs.length = k ∧ wx.ownsRow (w.heap.size + 1) 46 1 (.slice (some ⟨g, 0, none⟩) k cap) k xs ∧ Lns wx xs ∧ Cl w.heap.size [.slice none 0 0] 46 wx ∧ Below w.heap.size w wx))
  case atStart => exact ⟨1, _, 1, _, rfl, by omega, by omega, Nat.le_refl _, rfl, HR2.out⟩
  case round =>
    clear HR2
    obtain ⟨k, g, cap, xs, rfl, hkn, HR⟩ := hrel
    obtain ⟨hgk, hk1, hxl, hrow, hls, hcl, hbe⟩ := HR.out
    obtain ⟨hct, hgl⟩ := own_cts hrow hls
    by_cases hlt : k ≤ n
    · have ti : decide ((k : Int) ≤ (n : Int)) = true := decide_eq_true (by omega)
      have HNx : Hid (Calls Tryd.prog 38 #[.slice (some ⟨g, 0, none⟩) k cap] wr fun e w' => ∃ v, e = .returned (.agg #[v]) ∧ LN w' v (PT.pt k k) ∧ Below wr.heap.size wr w') := nextP_any g 0 cap k wr hk1 (by omega) hgl hct
      have HRw : Hid (gk + k = n + 2 ∧ xs.length = k ∧ wr.ownsRow (w.heap.size + 1) 46 1 (.slice (some ⟨g, 0, none⟩) k cap) k xs ∧ Lns wr xs ∧ Cl w.heap.size [.slice none 0 0] 46 wr ∧ Below w.heap.size w wr) := ⟨hgk, hxl, hrow, hls, hcl, hbe⟩
      clear HR hgk hk1 hxl hrow hls hcl hbe hct hgl
      go_wp2_with fail
      refine HNx.out.mono ?_
      rintro e w3 ⟨v, rfl, hv, k3⟩
      obtain ⟨av, kv, cv, rfl⟩ := ln_slice hv
      obtain ⟨bx, hbx⟩ : ∃ b, w3.heap.size = b := ⟨_, rfl⟩
      obtain ⟨W4, hW4⟩ : ∃ W, w3.alloc (.cells #[.slice av kv cv] 46) = W := ⟨_, rfl⟩
      have k4 := bel_one w3 (.cells #[.slice av kv cv] 46)
      have C4 := Cl.new [.slice av kv cv] 46 w3
      rw [hW4] at k4 C4
      rw [hbx] at C4
      have k34 : Below wr.heap.size wr W4 := k3.trans (k4.mono k3.size)
      have HX4 : Hid (W4.ownsRow (w.heap.size + 1) 46 1 (.slice (some ⟨g, 0, none⟩) k cap) k xs ∧ (∀ j, j < (xs ++ [Value.slice av kv cv]).length → ∃ u, (xs ++ [Value.slice av kv cv])[j]? = some u ∧ LN W4 u (PT.pt j j)) ∧ Cl w.heap.size [.slice none 0 0] 46 W4 ∧ Below w.heap.size w W4 ∧ Cl bx [.slice av kv cv] 46 W4) := by
        refine ⟨HRw.out.2.2.1.kept (row := none) ⟨k34.os, k34.tape, k34.output, k34.size, fun i hi _ => k34.block i hi⟩ (.inr (by simp [Value.ownBlock])), fun j hj => ?_, HRw.out.2.2.2.2.1.below k34, HRw.out.2.2.2.2.2.trans (k34.mono HRw.out.2.2.2.2.2.size), C4⟩
        have hxl := HRw.out.2.1
        rcases Nat.lt_or_ge j k with q | q
        · obtain ⟨u, h1, h2⟩ := HRw.out.2.2.2.1 j (by omega)
          exact ⟨u, by rw [List.getElem?_append_left (by omega)]; exact h1, h2.below k34⟩
        · have : j = k := by simp at hj; omega
          subst this
          refine ⟨.slice av kv cv, ?_, hv.below k4⟩
          rw [List.getElem?_append_right (by omega), hxl, Nat.sub_self]; rfl
      have HGk : Hid (gk + k = n + 2 ∧ xs.length = k) := ⟨HRw.out.1, HRw.out.2.1⟩
      have hz4 : w.heap.size + 1 ≤ W4.heap.size := by have := HX4.out.2.2.1.lt; omega
      have HZ4 : Hid (w.heap.size + 1 ≤ W4.heap.size) := hz4
      clear hv k3 k4 C4 k34 HRw HNx hz4
      go_wp2_with (at_builtin; refine wpList_append_own _ rfl _ _ 61 rfl (w.heap.size + 1) 46 k0 (.agg #[.slice none 0 0]) 1 24 Tryd.underlying61 HP.out.1 HP.out.2.1 HP.out.2.2.1 HP.out.2.2.2 rfl (by decide) (.slice (some ⟨g, 0, none⟩) k cap) k xs rfl HX4.out.1 ⟨bx, 0, none⟩ 1 1 [.slice av kv cv] rfl rfl (own_news HX4.out.2.2.2.2) (by simp [Value.oneCell']) (by simp only [maxLen]; omega) (by omega) HZ4.out ?_; intro v' w5 hown' hgrow _; obtain ⟨g', cap', rfl⟩ := ownsRow_succ hown'; have HX5 : Hid (w5.ownsRow (w.heap.size + 1) 46 1 (.slice (some ⟨g', 0, none⟩) (k + 1) cap') (k + 1) (xs ++ [Value.slice av kv cv]) ∧ Lns w5 (xs ++ [Value.slice av kv cv]) ∧ Cl w.heap.size [.slice none 0 0] 46 w5 ∧ Below w.heap.size w w5) := ⟨hown', fun j hj => by { obtain ⟨u, h1, h2⟩ := HX4.out.2.1 j hj; exact ⟨u, h1, h2.rowed hgrow (fun g e => own_ty HX4.out.1 e)⟩ }, HX4.out.2.2.1.grown hgrow (fun e => by have := (HX4.out.1.lt _ e).1; omega), HX4.out.2.2.2.1.grown hgrow HX4.out.2.2.2.1.size (fun j hj => by have := (HX4.out.1.lt j hj).1; omega)⟩; clear hown' hgrow)
      go_roundg (gk - 1)
      case rel => exact ⟨k + 1, g', cap', xs ++ [Value.slice av kv cv], rfl, by omega, by have := HGk.out.1; omega, by omega, by rw [List.length_append, HGk.out.2]; rfl, HX5.out⟩
      case measure => have := HGk.out.1; omega
    · have ti : decide ((k : Int) ≤ (n : Int)) = false := decide_eq_false (by omega)
      have hkn1 : k = n + 1 := by omega
      obtain ⟨v, c1, hv⟩ := hct n (by omega)
      obtain ⟨av, kv, cv, rfl⟩ := ln_slice hv
      have f0 := hcl.frozen 0
      have f1 := hcl.cell 0
      simp only [List.getElem?_cons_zero] at f1
      have HF : Hid (Cl w.heap.size [.slice none 0 0] 46 wr ∧ Below w.heap.size w wr ∧ LN wr (.slice av kv cv) (PT.pt n n)) := ⟨hcl, hbe, hv⟩
      have x1 : (n : Int) < (k : Int) := by omega
      have x2 : n < k := by omega
      clear HR hgk hk1 hxl hrow hls hcl hbe hct hv hkn1
      simp only [Nat.zero_add] at c1
      go_wp2
      have C2 := HF.out.1.set 0 (.slice av kv cv)
      have q3 := C2.cell 0
      simp only [List.set_cons_zero, List.getElem?_cons_zero] at q3
      refine bodyPost_ret (v := .agg #[.slice av kv cv]) (by simp [results, Tryd.results23, go_sem, q3]) rfl ⟨_, rfl, HF.out.2.2.set HF.out.1 _, HF.out.2.1.setCell (Nat.le_refl _) _⟩

def cnV (s : ByteArray) (c a : Int) : Value := .tuple #[.string s, .agg #[.int .i64 c, .int .i64 a]]
theorem one_cell {w : World} (n : Int) : ∀ j, j < [n].length → (w.alloc (.cells #[.int .i64 n] 3)).cell? ⟨w.heap.size, 0 + j, none⟩ = some (.int .i64 ([n].getD j 0)) := fun j hj => by
  have : j = 0 := by simp at hj; omega
  subst this
  exact (Cl.new [.int .i64 n] 3 w).cell 0
theorem nb_one (lo hi n : Int) : nb lo hi 0 [n] = if lo ≤ n ∧ n ≤ hi then (0, 0) else (3, 0) := by
  unfold nb nb bwB
  by_cases h : lo ≤ n ∧ n ≤ hi
  · rw [if_pos h, if_pos (by simp [h.1, h.2])]
  · rw [if_neg h, if_neg (by simp; omega)]; rfl
set_option maxHeartbeats 1000000 in
theorem Count_bad (n : Int) (w : World) (hn : n < 0 ∨ 2000 < n) :
    Calls Tryd.prog 6 #[.int .i64 n] w fun e w' => e = .returned (.tuple #[.string ⟨#[]⟩, .agg #[.int .i64 3, .int .i64 0]]) ∧ Below w.heap.size w w' := by
  have HB : Hid (∀ W : World, Calls Tryd.prog 22 #[.int .i64 0, .int .i64 2000, .slice (some ⟨W.heap.size, 0, none⟩) 1 1] (W.alloc (.cells #[.int .i64 n] 3)) fun e w' => e = .returned (.agg #[.int .i64 3, .int .i64 0]) ∧ Below (W.heap.size + 1) (W.alloc (.cells #[.int .i64 n] 3)) w') := fun W => by
    have := between_any 0 2000 [n] W.heap.size 0 1 (W.alloc (.cells #[.int .i64 n] 3)) (by simp) (by simp) (one_cell n)
    rw [nb_one, if_neg (by omega)] at this
    simpa using this
  clear hn
  go_enter Tryd.func6, Tryd.ntmps6
  obtain ⟨W0, hW0⟩ : ∃ W, w.alloc (.cells #[.int .i64 0, .int .i64 0] 23) = W := ⟨_, rfl⟩
  have S0 := Sv.new 0 0 w
  have k0 := bel_one w (.cells #[.int .i64 0, .int .i64 0] 23)
  have z0 : W0.heap.size = w.heap.size + 1 := by rw [← hW0]; simp
  rw [hW0] at S0 k0
  go_wp2_with fail
  rw [← z0]
  refine (HB.out W0).mono ?_
  rintro e w1 ⟨rfl, hb⟩
  have k1 : Below W0.heap.size W0 (W0.alloc (.cells #[.int .i64 n] 3)) := bel_one W0 _
  have k2 : Below w.heap.size w w1 := (k0.trans (k1.mono (by omega))).trans (hb.mono (by omega))
  have S1 : Sv w.heap.size 0 0 w1 := (S0.below k1).below (hb.mono (by simp))
  obtain ⟨q0, q1, q2, q3, hz⟩ := S1
  have HK2 : Hid (Below w.heap.size w w1) := k2
  clear HB hb k1 k2 k0 hW0 z0
  go_wp2
  go_region
  all_goals
    go_wp2
    refine bodyPost_ret (v := .tuple #[.string ⟨#[]⟩, .agg #[.int .i64 3, .int .i64 0]]) (by simp [results, Tryd.results6, go_sem, q0, q1, hz]) rfl ⟨rfl, ?_⟩
    refine Below.drew (Below.alloc (Below.setCell (Below.setCell HK2.out ?_ _) ?_ _) ?_ _) <;> first | omega | (simp; done) | (simp; omega)
set_option maxHeartbeats 1000000 in
theorem Count_ok (n : Nat) (w : World) (hn : n ≤ 2000) (hT : Tq w) :
    Calls Tryd.prog 6 #[.int .i64 (n : Int)] w fun e w' => e = .returned (.tuple #[.string ⟨(Lib.decDigits (PT.pt n n)).toArray⟩, .agg #[.int .i64 0, .int .i64 0]]) ∧ Below w.heap.size w w' := by
  have HB : Hid (∀ W : World, Calls Tryd.prog 22 #[.int .i64 0, .int .i64 2000, .slice (some ⟨W.heap.size, 0, none⟩) 1 1] (W.alloc (.cells #[.int .i64 (n : Int)] 3)) fun e w' => e = .returned (.agg #[.int .i64 0, .int .i64 0]) ∧ Below (W.heap.size + 1) (W.alloc (.cells #[.int .i64 (n : Int)] 3)) w') := fun W => by
    have := between_any 0 2000 [(n : Int)] W.heap.size 0 1 (W.alloc (.cells #[.int .i64 (n : Int)] 3)) (by simp) (by simp) (one_cell _)
    rw [nb_one, if_pos (by omega)] at this
    simpa using this
  have HCn : Hid (∀ W, Calls Tryd.prog 23 #[.int .i64 (n : Int)] W fun e w' => ∃ v, e = .returned (.agg #[v]) ∧ LN w' v (PT.pt n n) ∧ Below W.heap.size W w') := fun W => count_any n W hn
  have hlt : PT.pt n n < Bs ^ 20 := by
    have h1 : PT.pt n n < PT.Yb := PT.pt_Y PT.g_last2 (by omega) (by omega)
    have := yb_bs
    omega
  have HLt : Hid (PT.pt n n < Bs ^ 20) := hlt
  have HT : Hid (Tq w) := hT
  obtain ⟨st, hst⟩ : ∃ st : ByteArray, st = ⟨(Lib.decDigits (PT.pt n n)).toArray⟩ := ⟨_, rfl⟩
  have HSt : Hid (∀ (v : Value) (W : World), LN W v (PT.pt n n) → Below w.heap.size w W → Calls Tryd.prog 24 #[.agg #[v]] W fun e w' => e = .returned (.string st) ∧ Below W.heap.size W w') := fun v W h k => by
    rw [hst]; exact String_any v _ 20 W h hlt (by omega) (by omega) (hT.below k)
  rw [← hst]
  clear hn hT hlt hst
  go_enter Tryd.func6, Tryd.ntmps6
  obtain ⟨W0, hW0⟩ : ∃ W, w.alloc (.cells #[.int .i64 0, .int .i64 0] 23) = W := ⟨_, rfl⟩
  have S0 := Sv.new 0 0 w
  have k0 := bel_one w (.cells #[.int .i64 0, .int .i64 0] 23)
  have z0 : W0.heap.size = w.heap.size + 1 := by rw [← hW0]; simp
  rw [hW0] at S0 k0
  go_wp2_with fail
  rw [← z0]
  refine (HB.out W0).mono ?_
  rintro e w1 ⟨rfl, hb⟩
  have k1 : Below W0.heap.size W0 (W0.alloc (.cells #[.int .i64 (n : Int)] 3)) := bel_one W0 _
  have k2 : Below w.heap.size w w1 := (k0.trans (k1.mono (by omega))).trans (hb.mono (by omega))
  have S1 : Sv w.heap.size 0 0 w1 := (S0.below k1).below (hb.mono (by simp))
  have HS1 : Hid (Sv w.heap.size 0 0 w1 ∧ Below w.heap.size w w1) := ⟨S1, k2⟩
  clear HB hb k1 k2 k0 hW0 z0 S1 S0
  go_wp2_with fail
  refine (HCn.out _).mono ?_
  rintro e w2 ⟨v, rfl, hv, k2⟩
  have HS2 : Hid (Sv w.heap.size 0 0 w2 ∧ Below w.heap.size w w2) := ⟨(HS1.out.1.alloc _ _).below k2, (Below.alloc HS1.out.2 HS1.out.2.size _).trans (k2.mono (by simp; have := HS1.out.2.size; omega))⟩
  have HLn : Hid (LN w2 v (PT.pt n n)) := hv
  clear HS1 hv k2 HCn
  go_wp2_with fail
  refine (HSt.out _ _ HLn.out HS2.out.2).mono ?_
  rintro e w3 ⟨rfl, k3⟩
  have HK3 : Hid (Below w.heap.size w w3) := HS2.out.2.trans (k3.mono HS2.out.2.size)
  obtain ⟨q0, q1, q2, q3, hz⟩ := HS2.out.1.below k3
  clear k3 HS2 HLn HSt
  go_wp2
  refine bodyPost_ret (v := .tuple #[.string st, .agg #[.int .i64 0, .int .i64 0]]) (by simp [results, Tryd.results6, go_sem, q0, q1, hz]) rfl ⟨rfl, ?_⟩
  exact Below.setCell (Below.setCell HK3.out (Nat.le_refl _) _) (Nat.le_refl _) _

end Go.Proofs.YtmifenflbaohnaaDoor
