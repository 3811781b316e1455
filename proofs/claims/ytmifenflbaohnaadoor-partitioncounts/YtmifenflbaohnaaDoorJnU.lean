import Derived.Test.YtmifenflbaohnaaDoorPtF
import Derived.Test.YtmifenflbaohnaaDoorPtE
import Derived.Test.YtmifenflbaohnaaDoorJnO
import Derived.BigQuiet
import Derived.BigRegion
import Derived.Test.YtmifenflbaohnaaDoorJnB
import Derived.Test.YtmifenflbaohnaaDoorTxA
section
/- What is asked of Odd and Apart, for the law's walk; its boxes. -/
set_option linter.unusedSimpArgs false
set_option linter.unusedVariables false
set_option maxRecDepth 100000
namespace Go.Proofs.YtmifenflbaohnaaDoor
open Go.RowKit
namespace PT

/-- The first place at which P holds. -/
def ff (P : Nat → Bool) : Nat → Nat → Int × Int
  | 0, _ => (0, 0)
  | f + 1, i => if P i = true then (7, (i : Int)) else ff P f (i + 1)
def odP (l : List Int) (i : Nat) : Bool := decide (0 < i) && decide (prv l i = l.getD i 0)
def apP (l : List Int) (i : Nat) : Bool := decide (l.getD i 0 % 2 = 0)
def odf (l : List Int) : Int × Int := if (pf l).1 = 0 then ff (odP l) l.length 0 else pf l
def apf (l : List Int) : Int × Int := if (pf l).1 = 0 then ff (apP l) l.length 0 else pf l
theorem ff_yes {P : Nat → Bool} {n i : Nat} (h : i < n) (hp : P i = true) : ff P (n - i) i = (7, (i : Int)) := by
  obtain ⟨d, hd⟩ : ∃ d, n - i = d + 1 := ⟨n - i - 1, by omega⟩
  rw [hd, ff, if_pos hp]
theorem ff_no {P : Nat → Bool} {n i : Nat} (h : i < n) (hp : P i = false) : ff P (n - i) i = ff P (n - (i + 1)) (i + 1) := by
  obtain ⟨d, hd⟩ : ∃ d, n - i = d + 1 := ⟨n - i - 1, by omega⟩
  rw [hd, ff, if_neg (by rw [hp]; decide), show n - (i + 1) = d by omega]
/-- How far the search is. -/
def Sf (t : Int × Int) (P : Nat → Bool) (n i : Nat) (c a : Int) : Prop := (c = 0 ∧ a = 0 ∧ t = ff P (n - i) i) ∨ (c ≠ 0 ∧ t = (c, a))
theorem Sf.fin {t : Int × Int} {P : Nat → Bool} {n i : Nat} {c a : Int} (h : Sf t P n i c a) (he : ¬ (i < n ∧ c = 0)) (hi : i ≤ n) : t = (c, a) := by
  rcases h with ⟨h1, h2, h3⟩ | ⟨_, h⟩
  · rw [h3, show n - i = 0 by omega, h1, h2]; rfl
  · exact h
theorem Sf.start {l : List Int} {P : Nat → Bool} {p q : Int} (h : pf l = (p, q)) : Sf (if (pf l).1 = 0 then ff P l.length 0 else pf l) P l.length 0 p q := by
  by_cases h0 : (pf l).1 = 0
  · rw [if_pos h0]
    have := pf_zero h0
    rw [h] at this
    injection this with a b
    exact .inl ⟨a, b, rfl⟩
  · rw [if_neg h0]
    refine .inr ⟨by rw [h] at h0; exact h0, h⟩

end PT

/-- A slice of numbers whose array lies below B. -/
structure Ib (B : Nat) (w : World) (s : Value) (xs : List Int) : Prop where
  shape : ∃ (aa : Option Addr) (g o cap : Nat), s = .slice aa xs.length cap ∧ (0 < xs.length → aa = some ⟨g, o, none⟩) ∧ (∀ i, i < xs.length → w.cell? ⟨g, o + i, none⟩ = some (.int .i64 (xs.getD i 0))) ∧ (0 < xs.length → g < B)
theorem IS.ib {w : World} {s : Value} {xs : List Int} (h : IS w s xs) : Ib w.heap.size w s xs := ⟨h.shape⟩
theorem Ib.is {B : Nat} {w : World} {s : Value} {xs : List Int} (h : Ib B w s xs) (hB : B ≤ w.heap.size) : IS w s xs := by
  obtain ⟨aa, g, o, cap, h1, h2, h3, h4⟩ := h.shape
  exact ⟨aa, g, o, cap, h1, h2, h3, fun h => Nat.lt_of_lt_of_le (h4 h) hB⟩
theorem Ib.below {B B' : Nat} {w w' : World} {s : Value} {xs : List Int} (h : Ib B w s xs) (k : Below B' w w') (hB : B ≤ B') : Ib B w' s xs := by
  obtain ⟨aa, g, o, cap, h1, h2, h3, h4⟩ := h.shape
  exact ⟨aa, g, o, cap, h1, h2, fun i hi => (k.cell (p := ⟨g, o + i, none⟩) (Nat.lt_of_lt_of_le (h4 (by omega)) hB)).trans (h3 i hi), h4⟩
theorem Ib.mono {B B' : Nat} {w : World} {s : Value} {xs : List Int} (h : Ib B w s xs) (hB : B ≤ B') : Ib B' w s xs := by
  obtain ⟨aa, g, o, cap, h1, h2, h3, h4⟩ := h.shape
  exact ⟨aa, g, o, cap, h1, h2, h3, fun h => Nat.lt_of_lt_of_le (h4 h) hB⟩
theorem Ib.set {B b : Nat} {w : World} {s : Value} {xs : List Int} (h : Ib B w s xs) (hb : B ≤ b) (x y : Value) : Ib B ((w.setCell ⟨b, 0, none⟩ x).setCell ⟨b, 1, none⟩ y) s xs := by
  obtain ⟨aa, g, o, cap, h1, h2, h3, h4⟩ := h.shape
  refine ⟨aa, g, o, cap, h1, h2, fun i hi => ?_, h4⟩
  have hg : g ≠ b := by have := h4 (by omega); omega
  exact ((World.cell?_of_block (Below.heap_setCell _ ⟨b, 1, none⟩ _ g hg)).trans (World.cell?_of_block (Below.heap_setCell _ ⟨b, 0, none⟩ _ g hg))).trans (h3 i hi)
theorem Ib.at {B N ca : Nat} {ad : Addr} {w : World} {xs : List Int} (h : Ib B w (.slice (some ad) N ca) xs) (h0 : 0 < xs.length) : ∃ g o, ad = ⟨g, o, none⟩ ∧ ∀ j, j < xs.length → w.cell? ⟨g, o + j, none⟩ = some (.int .i64 (xs.getD j 0)) := by
  obtain ⟨aa, g, o, cap, h1, h2, h3, h4⟩ := h.shape
  simp only [Value.slice.injEq] at h1
  have h5 := h2 h0
  rw [← h1.1] at h5
  exact ⟨g, o, Option.some.inj h5, h3⟩
/-- Falling. -/
def Sd (a : List Int) : Prop := ∀ j, j + 1 < a.length → a.getD (j + 1) 0 < a.getD j 0
/-- What Odd, and what Apart answers. -/
def OutO (B : Nat) (l : List Int) (v : Value) (c : Int) (W : World) : Prop := (c ≠ 0 ∧ v = .slice none 0 0) ∨ (c = 0 ∧ ∃ o, Ib B W v o ∧ o.length ≤ 10000 ∧ PT.Gl l o)
def OutA (B : Nat) (l : List Int) (v : Value) (c : Int) (W : World) : Prop := (c ≠ 0 ∧ v = .slice none 0 0) ∨ (c = 0 ∧ ∃ a, Ib B W v a ∧ a.length ≤ 10000 ∧ PT.Gl a l ∧ Sd a)
theorem OutO.imp {B B' : Nat} {l : List Int} {v : Value} {c : Int} {W W' : World} (h : OutO B l v c W) (f : ∀ o, Ib B W v o → Ib B' W' v o) : OutO B' l v c W' := by
  rcases h with h | ⟨h1, o, h2, h3⟩
  · exact .inl h
  · exact .inr ⟨h1, o, f o h2, h3⟩
theorem OutA.imp {B B' : Nat} {l : List Int} {v : Value} {c : Int} {W W' : World} (h : OutA B l v c W) (f : ∀ o, Ib B W v o → Ib B' W' v o) : OutA B' l v c W' := by
  rcases h with h | ⟨h1, o, h2, h3⟩
  · exact .inl h
  · exact .inr ⟨h1, o, f o h2, h3⟩
structure GlIs : Prop where
  odd : ∀ (v : Value) (l : List Int) (w : World), IS w v l → I64 l → Calls Tryd.prog 19 #[v] w fun e w' => ∃ v', e = .returned (.tuple #[v', .agg #[.int .i64 (PT.odf l).1, .int .i64 (PT.odf l).2]]) ∧ OutO w'.heap.size l v' (PT.odf l).1 w' ∧ Below w.heap.size w w'
  apart : ∀ (v : Value) (l : List Int) (w : World), IS w v l → I64 l → Calls Tryd.prog 20 #[v] w fun e w' => ∃ v', e = .returned (.tuple #[v', .agg #[.int .i64 (PT.apf l).1, .int .i64 (PT.apf l).2]]) ∧ OutA w'.heap.size l v' (PT.apf l).1 w' ∧ Below w.heap.size w w'
/-- The law's boxes: what Odd and Apart told, the two faults that are asked; the lists. -/
structure Gb (w W : World) (b5 b7 b8 b9 : Nat) (fo fa : Int × Int) (c8 a8 c9 a9 : Int) (v v1 vo va : Value) (xs : List Int) : Prop where
  s5 : Sv b5 fo.1 fo.2 W
  s7 : Sv b7 fa.1 fa.2 W
  s8 : Sv b8 c8 a8 W
  s9 : Sv b9 c9 a9 W
  n5 : b5 < b8
  n7 : b7 < b8
  n9 : b8 < b9
  v : Ib b8 W v xs
  o : Ib b8 W v1 xs
  oo : OutO b8 xs vo fo.1 W
  oa : OutA b8 xs va fa.1 W
  k : Below w.heap.size w W
  w8 : w.heap.size ≤ b8
theorem Gb.below {w W W' : World} {b5 b7 b8 b9 : Nat} {fo fa : Int × Int} {c8 a8 c9 a9 : Int} {v v1 vo va : Value} {xs : List Int} (h : Gb w W b5 b7 b8 b9 fo fa c8 a8 c9 a9 v v1 vo va xs) (k : Below W.heap.size W W') : Gb w W' b5 b7 b8 b9 fo fa c8 a8 c9 a9 v v1 vo va xs := by
  have h8 := h.s8.lt
  exact ⟨h.s5.below k, h.s7.below k, h.s8.below k, h.s9.below k, h.n5, h.n7, h.n9, h.v.below k (by omega), h.o.below k (by omega), h.oo.imp (fun o q => q.below k (by omega)), h.oa.imp (fun o q => q.below k (by omega)), h.k.trans (k.mono h.k.size), h.w8⟩
theorem Gb.set8 {w W : World} {b5 b7 b8 b9 : Nat} {fo fa : Int × Int} {c8 a8 c9 a9 : Int} {v v1 vo va : Value} {xs : List Int} (h : Gb w W b5 b7 b8 b9 fo fa c8 a8 c9 a9 v v1 vo va xs) (x y : Int) : Gb w ((W.setCell ⟨b8, 0, none⟩ (.int .i64 x)).setCell ⟨b8, 1, none⟩ (.int .i64 y)) b5 b7 b8 b9 fo fa x y c9 a9 v v1 vo va xs := by
  have n5 := h.n5
  have n7 := h.n7
  have n9 := h.n9
  exact ⟨h.s5.other _ _ (by omega), h.s7.other _ _ (by omega), h.s8.set x y, h.s9.other _ _ (by omega), h.n5, h.n7, h.n9, h.v.set (Nat.le_refl _) _ _, h.o.set (Nat.le_refl _) _ _, h.oo.imp (fun o q => q.set (Nat.le_refl _) _ _), h.oa.imp (fun o q => q.set (Nat.le_refl _) _ _), (h.k.setCell h.w8 _).setCell h.w8 _, h.w8⟩
theorem Gb.set9 {w W : World} {b5 b7 b8 b9 : Nat} {fo fa : Int × Int} {c8 a8 c9 a9 : Int} {v v1 vo va : Value} {xs : List Int} (h : Gb w W b5 b7 b8 b9 fo fa c8 a8 c9 a9 v v1 vo va xs) (x y : Int) : Gb w ((W.setCell ⟨b9, 0, none⟩ (.int .i64 x)).setCell ⟨b9, 1, none⟩ (.int .i64 y)) b5 b7 b8 b9 fo fa c8 a8 x y v v1 vo va xs := by
  have n5 := h.n5
  have n7 := h.n7
  have n9 := h.n9
  have w8 := h.w8
  exact ⟨h.s5.other _ _ (by omega), h.s7.other _ _ (by omega), h.s8.other _ _ (by omega), h.s9.set x y, h.n5, h.n7, h.n9, h.v.set (by omega) _ _, h.o.set (by omega) _ _, h.oo.imp (fun o q => q.set (by omega) _ _), h.oa.imp (fun o q => q.set (by omega) _ _), (h.k.setCell (by show w.heap.size ≤ b9; omega) _).setCell (by show w.heap.size ≤ b9; omega) _, h.w8⟩

end Go.Proofs.YtmifenflbaohnaaDoor
end

section
/- The program: isSameAsAhead, isEven, checkKind, Odd, Apart: what is asked of them. -/
set_option linter.unusedSimpArgs false
set_option linter.unusedVariables false
set_option maxRecDepth 100000
namespace Go.Proofs.YtmifenflbaohnaaDoor
open Go.RowKit

set_option maxHeartbeats 1000000 in
theorem same_any (v : Value) (l : List Int) (i : Nat) (w : World) (h : IS w v l) (hi : i < l.length) (hl : l.length ≤ 1000) :
    Calls Tryd.prog 32 #[v, .int .i64 (i : Int)] w fun e w' => e = .returned (.bool (PT.odP l i)) ∧ Below w.heap.size w w' := by
  obtain ⟨aa, g, o, cap, rfl, ha, hc, hg⟩ := h.shape
  obtain rfl := ha (by omega)
  have c0 := hc i hi
  obtain ⟨x, hx⟩ : ∃ x, l.getD i 0 = x := ⟨_, rfl⟩
  obtain ⟨N, hN⟩ : ∃ N, N = l.length := ⟨_, rfl⟩
  rw [hx] at c0
  have x1 : (i : Int) < (N : Int) := by omega
  by_cases h0 : i = 0
  · have HE : Hid (PT.odP l i = false) := by show _ = _; unfold PT.odP; rw [h0]; rfl
    have t0 : decide (0 < (i : Int)) = false := decide_eq_false (by omega)
    have t0n : decide (0 < i) = false := decide_eq_false (by omega)
    rw [HE.out]
    rw [← hN]
    clear hc hg ha h h0 hN hi hl hx
    go_enter Tryd.func32, Tryd.ntmps32
    go_wp2_with fail
    go_quiet (fail)
    go_wp2
    go_ret
    exact ⟨rfl, below_drewN' (Below.refl _ _)⟩
  · obtain ⟨p, hp⟩ : ∃ p, i = p + 1 := ⟨i - 1, by omega⟩
    have c1 := hc p (by omega)
    obtain ⟨y, hy⟩ : ∃ y, l.getD p 0 = y := ⟨_, rfl⟩
    rw [hy] at c1
    have HE : Hid (PT.odP l i = (x == y)) := by
      show _ = _
      unfold PT.odP
      rw [hp, PT.prv_s, hy, ← hp, hx, decide_eq_true (by omega : 0 < i), Bool.true_and]
      by_cases e : x = y
      · subst e; simp
      · rw [decide_eq_false (fun q => e q.symm), beq_eq_false_iff_ne.2 e]
    have t0 : decide (0 < (i : Int)) = true := decide_eq_true (by omega)
    have t0n : decide (0 < i) = true := decide_eq_true (by omega)
    have hip : (i : Int) - 1 = (p : Int) := by omega
    have x2 : (p : Int) < (N : Int) := by omega
    have hwp : IntKind.i64.wrap (p : Int) = (p : Int) := by rw [IntKind.wrap_i64]; omega
    have hp0 : (0 : Int) ≤ (p : Int) := by omega
    rw [HE.out, ← hN]
    clear hc hg ha h h0 hN hi hl hx hy hp
    go_enter Tryd.func32, Tryd.ntmps32
    go_wp2_with fail
    go_quiet (fail)
    go_wp2
    go_ret
    exact ⟨rfl, below_drewN' (Below.refl _ _)⟩
set_option maxHeartbeats 1000000 in
theorem even_any (v : Value) (l : List Int) (i : Nat) (w : World) (h : IS w v l) (hi : i < l.length) (hl : l.length ≤ 1000) (hr : 1 ≤ l.getD i 0) :
    Calls Tryd.prog 34 #[v, .int .i64 (i : Int)] w fun e w' => e = .returned (.bool (PT.apP l i)) ∧ Below w.heap.size w w' := by
  obtain ⟨aa, g, o, cap, rfl, ha, hc, hg⟩ := h.shape
  obtain rfl := ha (by omega)
  have c0 := hc i hi
  obtain ⟨x, hx⟩ : ∃ x : Nat, l.getD i 0 = (x : Int) := ⟨(l.getD i 0).toNat, by omega⟩
  obtain ⟨N, hN⟩ : ∃ N, N = l.length := ⟨_, rfl⟩
  have HE : Hid (PT.apP l i = ((x : Int) % 2 == 0)) := by
    show _ = _
    unfold PT.apP
    rw [hx]; rfl
  rw [hx] at c0
  have x1 : (i : Int) < (N : Int) := by omega
  obtain ⟨B, hB⟩ : ∃ B, ((x : Int) % 2 == 0) = B := ⟨_, rfl⟩
  rw [HE.out, hB, ← hN]
  clear hc hg ha h hN hi hl hx hr HE
  go_enter Tryd.func34, Tryd.ntmps34
  go_wp2
  go_ret
  exact ⟨rfl, Below.refl _ _⟩

theorem vp_i64 {l : List Int} (hv : PT.Vp l) : I64 l := ⟨by have := hv.len; omega, fun x hx => by
  obtain ⟨j, hj, e⟩ := List.getElem_of_mem hx
  have := hv.rng j hj
  rw [List.getD_eq_getElem?_getD, List.getElem?_eq_getElem hj, Option.getD_some, e] at this
  omega⟩
set_option maxRecDepth 100000 in
set_option maxHeartbeats 2000000 in
theorem kind_odd (v : Value) (l : List Int) (w : World) (h : IS w v l) (hI : I64 l) :
    Calls Tryd.prog 31 #[v, .func (.func 32) #[] #[]] w fun e w' => e = .returned (.agg #[.int .i64 (PT.odf l).1, .int .i64 (PT.odf l).2]) ∧ Below w.heap.size w w' := by
  obtain ⟨t, ht⟩ : ∃ t, t = PT.odf l := ⟨_, rfl⟩
  rw [← ht]
  by_cases h0 : (PT.pf l).1 = 0
  · have hv := PT.pf_vp (PT.pf_zero h0)
    have hN1 : l.length ≤ 1000 := hv.len
    have HCk : Hid (∀ W, Below w.heap.size w W → Calls Tryd.prog 14 #[v] W fun e w' => e = .returned (.agg #[.int .i64 0, .int .i64 0]) ∧ Below W.heap.size W w') := fun W k => by
      have := pCheck_any v l W (h.belowP k) hI
      unfold fagg at this
      rw [PT.pf_zero h0] at this
      exact this
    have HFn : Hid (∀ W i, Below w.heap.size w W → i < l.length → Calls Tryd.prog 32 #[v, .int .i64 (i : Int)] W fun e w' => e = .returned (.bool (PT.odP l i)) ∧ Below W.heap.size W w') := fun W i k hi => same_any v l i W (h.belowP k) hi hN1
    have HTt : Hid (t = PT.ff (PT.odP l) l.length 0) := by show _ = _; rw [ht]; unfold PT.odf; rw [if_pos h0]
    obtain ⟨aa, g, o, cap, rfl, ha, hc, hg⟩ := h.shape
    obtain ⟨N, hN⟩ : ∃ N, N = l.length := ⟨_, rfl⟩
    rw [← hN] at hN1 HFn HTt HCk
    rw [← hN]
    clear h hI h0 ha hc hg hN ht hv
    go_enter Tryd.func31, Tryd.ntmps31
    go_wp2_with fail
    have K0 : Below w.heap.size w (w.alloc (.cells #[.int .i64 0, .int .i64 0] 23)) := Below.alloc (Below.refl _ _) (Nat.le_refl _) _
    refine (HCk.out _ K0).mono ?_
    rintro e w1 ⟨rfl, k1⟩
    have K1 : Below w.heap.size w w1 := K0.trans (k1.mono (by simp))
    have S1 : Sv w.heap.size 0 0 w1 := (Sv.new 0 0 w).below k1
    have HS1 : Hid (Sv w.heap.size 0 0 (w1.alloc (.cells #[.int .i64 0, .int .i64 0] 23)) ∧ Below w.heap.size w (w1.alloc (.cells #[.int .i64 0, .int .i64 0] 23))) := ⟨S1.alloc _ _, Below.alloc K1 K1.size _⟩
    clear S1 K0 K1 k1 HCk
    go_wp2
    go_loopg [15] N (fun gk iv wx => ∃ i : Nat, iv = .int .i64 (i : Int) ∧ Hid (gk = N - i ∧ i ≤ N ∧ t = PT.ff (PT.odP l) (N - i) i ∧ Sv w.heap.size 0 0 wx ∧ Below w.heap.size w wx))
    case atStart => exact ⟨0, rfl, rfl, by omega, HTt.out, HS1.out⟩
    case round =>
      clear HS1
      obtain ⟨i, rfl, HR⟩ := hrel
      obtain ⟨h1, h2, h3, h4, h5⟩ := HR.out
      have HS : Hid (Sv w.heap.size 0 0 wr ∧ Below w.heap.size w wr) := ⟨h4, h5⟩
      have HK : Hid (gk = N - i ∧ t = PT.ff (PT.odP l) (N - i) i) := ⟨h1, h3⟩
      clear HR h1 h3 h4 h5
      by_cases hi : i < N
      · have ti : decide ((i : Int) < (N : Int)) = true := decide_eq_true (by omega)
        have HF1 := HFn.out wr i HS.out.2 hi
        obtain ⟨bv, hbv⟩ : ∃ b, PT.odP l i = b := ⟨_, rfl⟩
        rw [hbv] at HF1
        have HF2 : Hid (Calls Tryd.prog 32 #[.slice aa N cap, .int .i64 (i : Int)] wr fun e w' => e = .returned (.bool bv) ∧ Below wr.heap.size wr w') := HF1
        have HBv : Hid (PT.odP l i = bv) := hbv
        clear HF1 hbv
        go_wp2_with fail
        refine HF2.out.mono ?_
        rintro e w2 ⟨rfl, k2⟩
        have HS2 : Hid (Sv w.heap.size 0 0 w2 ∧ Below w.heap.size w w2) := ⟨HS.out.1.below k2, HS.out.2.trans (k2.mono HS.out.2.size)⟩
        clear k2 HF2 HS
        cases bv
        · have HN : Hid (t = PT.ff (PT.odP l) (N - (i + 1)) (i + 1)) := by show _ = _; rw [HK.out.2, PT.ff_no hi HBv.out]
          go_wp2
          go_roundg (N - (i + 1))
          case rel => exact ⟨i + 1, by go_num, rfl, by omega, HN.out, HS2.out⟩
          case measure => have := HK.out.1; omega
        · have HE : Hid (t = (7, (i : Int))) := by show _ = _; rw [HK.out.2, PT.ff_yes hi HBv.out]
          obtain ⟨q0, q1, q2, q3, hz⟩ := HS2.out.1
          go_wp2
          refine bodyPost_ret (v := .agg #[.int .i64 7, .int .i64 (i : Int)]) (by simp [results, Tryd.results31, go_sem, q0, q1, hz]) rfl ⟨by rw [HE.out], ?_⟩
          exact Below.setCell (Below.setCell HS2.out.2 (Nat.le_refl _) _) (Nat.le_refl _) _
      · have ti : decide ((i : Int) < (N : Int)) = false := decide_eq_false (by omega)
        have HE : Hid (t = (0, 0)) := by show _ = _; rw [HK.out.2, show N - i = 0 by omega]; rfl
        obtain ⟨q0, q1, q2, q3, hz⟩ := HS.out.1
        go_wp2
        refine bodyPost_ret (v := .agg #[.int .i64 0, .int .i64 0]) (by simp [results, Tryd.results31, go_sem, q0, q1, hz]) rfl ⟨by rw [HE.out], ?_⟩
        exact Below.setCell (Below.setCell HS.out.2 (Nat.le_refl _) _) (Nat.le_refl _) _
  · have HCk : Hid (∀ W, Below w.heap.size w W → Calls Tryd.prog 14 #[v] W fun e w' => e = .returned (fagg l) ∧ Below W.heap.size W w') := fun W k => pCheck_any v l W (h.belowP k) hI
    have htt : t = PT.pf l := by rw [ht]; unfold PT.odf; rw [if_neg h0]
    unfold fagg at HCk
    rw [← htt] at HCk h0
    obtain ⟨c, a⟩ := t
    simp only [] at h0 HCk ⊢
    have t0 : (c == 0) = false := beq_eq_false_iff_ne.2 h0
    clear h hI ht htt
    go_enter Tryd.func31, Tryd.ntmps31
    go_wp2_with fail
    have K0 : Below w.heap.size w (w.alloc (.cells #[.int .i64 0, .int .i64 0] 23)) := Below.alloc (Below.refl _ _) (Nat.le_refl _) _
    refine (HCk.out _ K0).mono ?_
    rintro e w1 ⟨rfl, k1⟩
    have K1 : Below w.heap.size w w1 := K0.trans (k1.mono (by simp))
    have S1 : Sv w.heap.size 0 0 w1 := (Sv.new 0 0 w).below k1
    obtain ⟨q0, q1, q2, q3, hz⟩ := S1
    have HK1 : Hid (Below w.heap.size w w1) := K1
    clear K0 K1 k1 HCk
    go_wp2
    refine bodyPost_ret (v := .agg #[.int .i64 c, .int .i64 a]) (by simp [results, Tryd.results31, go_sem, q0, q1, hz]) rfl ⟨rfl, ?_⟩
    exact Below.alloc (Below.setCell (Below.setCell HK1.out (Nat.le_refl _) _) (Nat.le_refl _) _) (by simp; exact HK1.out.size) _
set_option maxRecDepth 100000 in
set_option maxHeartbeats 2000000 in
theorem kind_apart (v : Value) (l : List Int) (w : World) (h : IS w v l) (hI : I64 l) :
    Calls Tryd.prog 31 #[v, .func (.func 34) #[] #[]] w fun e w' => e = .returned (.agg #[.int .i64 (PT.apf l).1, .int .i64 (PT.apf l).2]) ∧ Below w.heap.size w w' := by
  obtain ⟨t, ht⟩ : ∃ t, t = PT.apf l := ⟨_, rfl⟩
  rw [← ht]
  by_cases h0 : (PT.pf l).1 = 0
  · have hv := PT.pf_vp (PT.pf_zero h0)
    have hN1 : l.length ≤ 1000 := hv.len
    have HCk : Hid (∀ W, Below w.heap.size w W → Calls Tryd.prog 14 #[v] W fun e w' => e = .returned (.agg #[.int .i64 0, .int .i64 0]) ∧ Below W.heap.size W w') := fun W k => by
      have := pCheck_any v l W (h.belowP k) hI
      unfold fagg at this
      rw [PT.pf_zero h0] at this
      exact this
    have HFn : Hid (∀ W i, Below w.heap.size w W → i < l.length → Calls Tryd.prog 34 #[v, .int .i64 (i : Int)] W fun e w' => e = .returned (.bool (PT.apP l i)) ∧ Below W.heap.size W w') := fun W i k hi => even_any v l i W (h.belowP k) hi hN1 (hv.rng i hi).1
    have HTt : Hid (t = PT.ff (PT.apP l) l.length 0) := by show _ = _; rw [ht]; unfold PT.apf; rw [if_pos h0]
    obtain ⟨aa, g, o, cap, rfl, ha, hc, hg⟩ := h.shape
    obtain ⟨N, hN⟩ : ∃ N, N = l.length := ⟨_, rfl⟩
    rw [← hN] at hN1 HFn HTt HCk
    rw [← hN]
    clear h hI h0 ha hc hg hN ht hv
    go_enter Tryd.func31, Tryd.ntmps31
    go_wp2_with fail
    have K0 : Below w.heap.size w (w.alloc (.cells #[.int .i64 0, .int .i64 0] 23)) := Below.alloc (Below.refl _ _) (Nat.le_refl _) _
    refine (HCk.out _ K0).mono ?_
    rintro e w1 ⟨rfl, k1⟩
    have K1 : Below w.heap.size w w1 := K0.trans (k1.mono (by simp))
    have S1 : Sv w.heap.size 0 0 w1 := (Sv.new 0 0 w).below k1
    have HS1 : Hid (Sv w.heap.size 0 0 (w1.alloc (.cells #[.int .i64 0, .int .i64 0] 23)) ∧ Below w.heap.size w (w1.alloc (.cells #[.int .i64 0, .int .i64 0] 23))) := ⟨S1.alloc _ _, Below.alloc K1 K1.size _⟩
    clear S1 K0 K1 k1 HCk
    go_wp2
    go_loopg [15] N (fun gk iv wx => ∃ i : Nat, iv = .int .i64 (i : Int) ∧ Hid (gk = N - i ∧ i ≤ N ∧ t = PT.ff (PT.apP l) (N - i) i ∧ Sv w.heap.size 0 0 wx ∧ Below w.heap.size w wx))
    case atStart => exact ⟨0, rfl, rfl, by omega, HTt.out, HS1.out⟩
    case round =>
      clear HS1
      obtain ⟨i, rfl, HR⟩ := hrel
      obtain ⟨h1, h2, h3, h4, h5⟩ := HR.out
      have HS : Hid (Sv w.heap.size 0 0 wr ∧ Below w.heap.size w wr) := ⟨h4, h5⟩
      have HK : Hid (gk = N - i ∧ t = PT.ff (PT.apP l) (N - i) i) := ⟨h1, h3⟩
      clear HR h1 h3 h4 h5
      by_cases hi : i < N
      · have ti : decide ((i : Int) < (N : Int)) = true := decide_eq_true (by omega)
        have HF1 := HFn.out wr i HS.out.2 hi
        obtain ⟨bv, hbv⟩ : ∃ b, PT.apP l i = b := ⟨_, rfl⟩
        rw [hbv] at HF1
        have HF2 : Hid (Calls Tryd.prog 34 #[.slice aa N cap, .int .i64 (i : Int)] wr fun e w' => e = .returned (.bool bv) ∧ Below wr.heap.size wr w') := HF1
        have HBv : Hid (PT.apP l i = bv) := hbv
        clear HF1 hbv
        go_wp2_with fail
        refine HF2.out.mono ?_
        rintro e w2 ⟨rfl, k2⟩
        have HS2 : Hid (Sv w.heap.size 0 0 w2 ∧ Below w.heap.size w w2) := ⟨HS.out.1.below k2, HS.out.2.trans (k2.mono HS.out.2.size)⟩
        clear k2 HF2 HS
        cases bv
        · have HN : Hid (t = PT.ff (PT.apP l) (N - (i + 1)) (i + 1)) := by show _ = _; rw [HK.out.2, PT.ff_no hi HBv.out]
          go_wp2
          go_roundg (N - (i + 1))
          case rel => exact ⟨i + 1, by go_num, rfl, by omega, HN.out, HS2.out⟩
          case measure => have := HK.out.1; omega
        · have HE : Hid (t = (7, (i : Int))) := by show _ = _; rw [HK.out.2, PT.ff_yes hi HBv.out]
          obtain ⟨q0, q1, q2, q3, hz⟩ := HS2.out.1
          go_wp2
          refine bodyPost_ret (v := .agg #[.int .i64 7, .int .i64 (i : Int)]) (by simp [results, Tryd.results31, go_sem, q0, q1, hz]) rfl ⟨by rw [HE.out], ?_⟩
          exact Below.setCell (Below.setCell HS2.out.2 (Nat.le_refl _) _) (Nat.le_refl _) _
      · have ti : decide ((i : Int) < (N : Int)) = false := decide_eq_false (by omega)
        have HE : Hid (t = (0, 0)) := by show _ = _; rw [HK.out.2, show N - i = 0 by omega]; rfl
        obtain ⟨q0, q1, q2, q3, hz⟩ := HS.out.1
        go_wp2
        refine bodyPost_ret (v := .agg #[.int .i64 0, .int .i64 0]) (by simp [results, Tryd.results31, go_sem, q0, q1, hz]) rfl ⟨by rw [HE.out], ?_⟩
        exact Below.setCell (Below.setCell HS.out.2 (Nat.le_refl _) _) (Nat.le_refl _) _
  · have HCk : Hid (∀ W, Below w.heap.size w W → Calls Tryd.prog 14 #[v] W fun e w' => e = .returned (fagg l) ∧ Below W.heap.size W w') := fun W k => pCheck_any v l W (h.belowP k) hI
    have htt : t = PT.pf l := by rw [ht]; unfold PT.apf; rw [if_neg h0]
    unfold fagg at HCk
    rw [← htt] at HCk h0
    obtain ⟨c, a⟩ := t
    simp only [] at h0 HCk ⊢
    have t0 : (c == 0) = false := beq_eq_false_iff_ne.2 h0
    clear h hI ht htt
    go_enter Tryd.func31, Tryd.ntmps31
    go_wp2_with fail
    have K0 : Below w.heap.size w (w.alloc (.cells #[.int .i64 0, .int .i64 0] 23)) := Below.alloc (Below.refl _ _) (Nat.le_refl _) _
    refine (HCk.out _ K0).mono ?_
    rintro e w1 ⟨rfl, k1⟩
    have K1 : Below w.heap.size w w1 := K0.trans (k1.mono (by simp))
    have S1 : Sv w.heap.size 0 0 w1 := (Sv.new 0 0 w).below k1
    obtain ⟨q0, q1, q2, q3, hz⟩ := S1
    have HK1 : Hid (Below w.heap.size w w1) := K1
    clear K0 K1 k1 HCk
    go_wp2
    refine bodyPost_ret (v := .agg #[.int .i64 c, .int .i64 a]) (by simp [results, Tryd.results31, go_sem, q0, q1, hz]) rfl ⟨rfl, ?_⟩
    exact Below.alloc (Below.setCell (Below.setCell HK1.out (Nat.le_refl _) _) (Nat.le_refl _) _) (by simp; exact HK1.out.size) _

theorem ff_zero {P : Nat → Bool} : ∀ n i, (PT.ff P n i).1 = 0 → PT.ff P n i = (0, 0) ∧ ∀ j, i ≤ j → j < i + n → P j = false
  | 0, i, _ => ⟨rfl, fun j h1 h2 => by omega⟩
  | n + 1, i, h => by
    rw [PT.ff] at h ⊢
    by_cases hp : P i = true
    · rw [if_pos hp] at h; simp at h
    · rw [if_neg hp] at h ⊢
      obtain ⟨a, b⟩ := ff_zero n (i + 1) h
      refine ⟨a, fun j h1 h2 => ?_⟩
      by_cases e : j = i
      · subst e; simpa using hp
      · exact b j (by omega) (by omega)
theorem wb_vp {l : List Int} (h : PT.Vp l) : Wb l := ⟨PT.mem_of_getD (P := fun x => 1 ≤ x) (fun j hj => (h.rng j hj).1), h.sum⟩
theorem odf_zero {l : List Int} (h : (PT.odf l).1 = 0) : PT.odf l = (0, 0) ∧ PT.Vp l := by
  by_cases h0 : (PT.pf l).1 = 0
  · unfold PT.odf at h ⊢
    rw [if_pos h0] at h ⊢
    exact ⟨(ff_zero _ _ h).1, PT.pf_vp (PT.pf_zero h0)⟩
  · unfold PT.odf at h
    rw [if_neg h0] at h
    exact absurd h h0
theorem apf_zero {l : List Int} (h : (PT.apf l).1 = 0) : PT.apf l = (0, 0) ∧ PT.Vp l ∧ ∀ j, j < l.length → l.getD j 0 % 2 = 1 := by
  by_cases h0 : (PT.pf l).1 = 0
  · unfold PT.apf at h ⊢
    rw [if_pos h0] at h ⊢
    obtain ⟨a, b⟩ := ff_zero _ _ h
    refine ⟨a, PT.pf_vp (PT.pf_zero h0), fun j hj => ?_⟩
    have := b j (Nat.zero_le _) (by omega)
    unfold PT.apP at this
    have := of_decide_eq_false this
    omega
  · unfold PT.apf at h
    rw [if_neg h0] at h
    exact absurd h h0
set_option maxHeartbeats 2000000 in
theorem Odd_any (v : Value) (l : List Int) (w : World) (h : IS w v l) (hI : I64 l) :
    Calls Tryd.prog 19 #[v] w fun e w' => ∃ v', e = .returned (.tuple #[v', .agg #[.int .i64 (PT.odf l).1, .int .i64 (PT.odf l).2]]) ∧ OutO w'.heap.size l v' (PT.odf l).1 w' ∧ Below w.heap.size w w' := by
  by_cases h0 : (PT.odf l).1 = 0
  · have hz := odf_zero h0
    have hv : PT.Vp l := hz.2
    have HB : Hid (∀ W, Below w.heap.size w W → Calls Tryd.prog 31 #[v, .func (.func 32) #[] #[]] W fun e w' => e = .returned (.agg #[.int .i64 0, .int .i64 0]) ∧ Below W.heap.size W w') := fun W k => by
      have := kind_odd v l W (h.belowP k) hI
      rw [hz.1] at this
      exact this
    have HT : Hid (∀ W, Below w.heap.size w W → Calls Tryd.prog 33 #[v] W fun e w' => ∃ v', e = .returned v' ∧ (∃ o : List Int, Iu W.heap.size w' v' o ∧ o.length ≤ 10000 ∧ PT.Gl l o) ∧ Below W.heap.size W w') := fun W k => by
      refine (odd_any v l W (h.belowP k) hv.len hv.rng (wb_vp hv)).mono ?_
      (rintro e w' ⟨v', s, rfl, h1, h2, h3, h4⟩; exact ⟨v', rfl, ⟨_, h1, by rw [List.length_reverse, List.length_mergeSort]; omega, PT.gl_odd hv.rng h2⟩, h4⟩)
    have hz0 : PT.odf l = (0, 0) := hz.1
    rw [hz0]
    clear h hI h0 hz hz0 hv
    go_enter Tryd.func19, Tryd.ntmps19
    go_wp2_with fail
    have K0 : Below w.heap.size w (w.alloc (.cells #[.int .i64 0, .int .i64 0] 23)) := Below.alloc (Below.refl _ _) (Nat.le_refl _) _
    refine (HB.out _ K0).mono ?_
    rintro e w1 ⟨rfl, k1⟩
    have K1 : Below w.heap.size w w1 := K0.trans (k1.mono (by simp))
    have S1 : Sv w.heap.size 0 0 w1 := (Sv.new 0 0 w).below k1
    have HS1 : Hid (Sv w.heap.size 0 0 w1 ∧ Below w.heap.size w w1) := ⟨S1, K1⟩
    clear S1 K0 K1 k1 HB
    go_wp2_with fail
    refine (HT.out _ (Below.alloc HS1.out.2 HS1.out.2.size _)).mono ?_
    rintro e w2 ⟨vt, rfl, ⟨o, ho1, ho2, ho3⟩, k2⟩
    have S2 : Sv w.heap.size 0 0 w2 := (HS1.out.1.alloc _ _).below k2
    have HK2 : Hid (Below w.heap.size w w2) := (Below.alloc HS1.out.2 HS1.out.2.size _).trans (k2.mono (by simp; have := HS1.out.2.size; omega))
    have HT2 : Hid (Iu (w.heap.size + 1) w2 vt o ∧ o.length ≤ 10000 ∧ PT.Gl l o) := ⟨ho1.mono (by simp; have := HS1.out.1.lt; omega), ho2, ho3⟩
    obtain ⟨q0, q1, q2, q3, hz⟩ := S2
    clear k2 HT ho1 ho2 ho3
    go_wp2
    refine bodyPost_ret (v := .tuple #[vt, .agg #[.int .i64 0, .int .i64 0]]) (by simp [results, Tryd.results19, go_sem, q0, q1, hz]) rfl ⟨vt, rfl, ?_, ?_⟩
    · exact .inr ⟨rfl, o, ((HT2.out.1.set (Nat.lt_succ_self _) _ _).set (Nat.lt_succ_self _) _ _).is.ib, HT2.out.2⟩
    · exact Below.setCell (Below.setCell HK2.out (Nat.le_refl _) _) (Nat.le_refl _) _
  · have HB : Hid (∀ W, Below w.heap.size w W → Calls Tryd.prog 31 #[v, .func (.func 32) #[] #[]] W fun e w' => e = .returned (.agg #[.int .i64 (PT.odf l).1, .int .i64 (PT.odf l).2]) ∧ Below W.heap.size W w') := fun W k => kind_odd v l W (h.belowP k) hI
    obtain ⟨t, ht⟩ : ∃ t, t = PT.odf l := ⟨_, rfl⟩
    rw [← ht] at h0 HB ⊢
    obtain ⟨c, a⟩ := t
    simp only [] at h0 HB ⊢
    have t0 : (c == 0) = false := beq_eq_false_iff_ne.2 h0
    have t1 : (c != 0) = true := by simp [bne, t0]
    have HE : Hid (∀ W, OutO w.heap.size l (.slice none 0 0) c W) := fun W => .inl ⟨h0, rfl⟩
    have HE2 : Hid (∀ B W, OutO B l (.slice none 0 0) c W) := fun B W => .inl ⟨h0, rfl⟩
    clear h hI ht h0
    go_enter Tryd.func19, Tryd.ntmps19
    go_wp2_with fail
    refine (HB.out _ (Below.alloc (Below.refl _ _) (Nat.le_refl _) _)).mono ?_
    rintro e w1 ⟨rfl, hb⟩
    have hz : w.heap.size < w1.heap.size := by have := hb.size; simp at this; omega
    have q0 : w1.cell? ⟨w.heap.size, 0, none⟩ = some (.int .i64 0) := cell_later hb (by simp)
    have q1 : w1.cell? ⟨w.heap.size, 1, none⟩ = some (.int .i64 0) := cell_later hb (by simp)
    have q2 : w1.frozen? ⟨w.heap.size, 0, none⟩ = false := (hb.frozen (p := ⟨w.heap.size, 0, none⟩) (by simp)).trans (by simp)
    have q3 : w1.frozen? ⟨w.heap.size, 1, none⟩ = false := (hb.frozen (p := ⟨w.heap.size, 1, none⟩) (by simp)).trans (by simp)
    clear HB
    go_wp2
    go_region
    all_goals
      go_wp2
      refine bodyPost_ret (v := .tuple #[.slice none 0 0, .agg #[.int .i64 c, .int .i64 a]]) (by simp [results, Tryd.results19, go_sem, q0, q1, hz]) rfl ⟨_, rfl, HE2.out _ _, ?_⟩
      refine Below.drew (Below.alloc (Below.setCell (Below.setCell (Below.trans (Below.alloc (Below.refl _ _) ?_ _) (hb.mono ?_)) ?_ _) ?_ _) ?_ _) <;> first | omega | (simp; done) | (simp; omega)
set_option maxHeartbeats 2000000 in
theorem Apart_any (v : Value) (l : List Int) (w : World) (h : IS w v l) (hI : I64 l) :
    Calls Tryd.prog 20 #[v] w fun e w' => ∃ v', e = .returned (.tuple #[v', .agg #[.int .i64 (PT.apf l).1, .int .i64 (PT.apf l).2]]) ∧ OutA w'.heap.size l v' (PT.apf l).1 w' ∧ Below w.heap.size w w' := by
  by_cases h0 : (PT.apf l).1 = 0
  · have hz := apf_zero h0
    have hv : PT.Vp l := hz.2.1
    have HB : Hid (∀ W, Below w.heap.size w W → Calls Tryd.prog 31 #[v, .func (.func 34) #[] #[]] W fun e w' => e = .returned (.agg #[.int .i64 0, .int .i64 0]) ∧ Below W.heap.size W w') := fun W k => by
      have := kind_apart v l W (h.belowP k) hI
      rw [hz.1] at this
      exact this
    have HT : Hid (∀ W, Below w.heap.size w W → Calls Tryd.prog 35 #[v] W fun e w' => ∃ v', e = .returned v' ∧ (∃ o : List Int, Iu W.heap.size w' v' o ∧ o.length ≤ 10000 ∧ (PT.Gl o l ∧ Sd o)) ∧ Below W.heap.size W w') := fun W k => by
      refine (apart_any v l W (h.belowP k) hv.len hv.rng (wb_vp hv)).mono ?_
      (rintro e w' ⟨v', s, rfl, h1, h2, h3, h4, h5⟩; have q:=PT.gl_apart (fun j hj=>⟨(hv.rng j hj).1,(hv.rng j hj).2,hz.2.2 j hj⟩) hv.dn h3 h4 h2; exact ⟨v', rfl, ⟨_, h1, by rw [List.length_reverse, List.length_mergeSort]; have:=PT.nodup_len h3 h4; omega, q.1, q.2⟩, h5⟩)
    have hz0 : PT.apf l = (0, 0) := hz.1
    rw [hz0]
    clear h hI h0 hz hz0 hv
    go_enter Tryd.func20, Tryd.ntmps20
    go_wp2_with fail
    have K0 : Below w.heap.size w (w.alloc (.cells #[.int .i64 0, .int .i64 0] 23)) := Below.alloc (Below.refl _ _) (Nat.le_refl _) _
    refine (HB.out _ K0).mono ?_
    rintro e w1 ⟨rfl, k1⟩
    have K1 : Below w.heap.size w w1 := K0.trans (k1.mono (by simp))
    have S1 : Sv w.heap.size 0 0 w1 := (Sv.new 0 0 w).below k1
    have HS1 : Hid (Sv w.heap.size 0 0 w1 ∧ Below w.heap.size w w1) := ⟨S1, K1⟩
    clear S1 K0 K1 k1 HB
    go_wp2_with fail
    refine (HT.out _ (Below.alloc HS1.out.2 HS1.out.2.size _)).mono ?_
    rintro e w2 ⟨vt, rfl, ⟨o, ho1, ho2, ho3⟩, k2⟩
    have S2 : Sv w.heap.size 0 0 w2 := (HS1.out.1.alloc _ _).below k2
    have HK2 : Hid (Below w.heap.size w w2) := (Below.alloc HS1.out.2 HS1.out.2.size _).trans (k2.mono (by simp; have := HS1.out.2.size; omega))
    have HT2 : Hid (Iu (w.heap.size + 1) w2 vt o ∧ o.length ≤ 10000 ∧ (PT.Gl o l ∧ Sd o)) := ⟨ho1.mono (by simp; have := HS1.out.1.lt; omega), ho2, ho3⟩
    obtain ⟨q0, q1, q2, q3, hz⟩ := S2
    clear k2 HT ho1 ho2 ho3
    go_wp2
    refine bodyPost_ret (v := .tuple #[vt, .agg #[.int .i64 0, .int .i64 0]]) (by simp [results, Tryd.results20, go_sem, q0, q1, hz]) rfl ⟨vt, rfl, ?_, ?_⟩
    · exact .inr ⟨rfl, o, ((HT2.out.1.set (Nat.lt_succ_self _) _ _).set (Nat.lt_succ_self _) _ _).is.ib, HT2.out.2⟩
    · exact Below.setCell (Below.setCell HK2.out (Nat.le_refl _) _) (Nat.le_refl _) _
  · have HB : Hid (∀ W, Below w.heap.size w W → Calls Tryd.prog 31 #[v, .func (.func 34) #[] #[]] W fun e w' => e = .returned (.agg #[.int .i64 (PT.apf l).1, .int .i64 (PT.apf l).2]) ∧ Below W.heap.size W w') := fun W k => kind_apart v l W (h.belowP k) hI
    obtain ⟨t, ht⟩ : ∃ t, t = PT.apf l := ⟨_, rfl⟩
    rw [← ht] at h0 HB ⊢
    obtain ⟨c, a⟩ := t
    simp only [] at h0 HB ⊢
    have t0 : (c == 0) = false := beq_eq_false_iff_ne.2 h0
    have t1 : (c != 0) = true := by simp [bne, t0]
    have HE : Hid (∀ W, OutA w.heap.size l (.slice none 0 0) c W) := fun W => .inl ⟨h0, rfl⟩
    have HE2 : Hid (∀ B W, OutA B l (.slice none 0 0) c W) := fun B W => .inl ⟨h0, rfl⟩
    clear h hI ht h0
    go_enter Tryd.func20, Tryd.ntmps20
    go_wp2_with fail
    refine (HB.out _ (Below.alloc (Below.refl _ _) (Nat.le_refl _) _)).mono ?_
    rintro e w1 ⟨rfl, hb⟩
    have hz : w.heap.size < w1.heap.size := by have := hb.size; simp at this; omega
    have q0 : w1.cell? ⟨w.heap.size, 0, none⟩ = some (.int .i64 0) := cell_later hb (by simp)
    have q1 : w1.cell? ⟨w.heap.size, 1, none⟩ = some (.int .i64 0) := cell_later hb (by simp)
    have q2 : w1.frozen? ⟨w.heap.size, 0, none⟩ = false := (hb.frozen (p := ⟨w.heap.size, 0, none⟩) (by simp)).trans (by simp)
    have q3 : w1.frozen? ⟨w.heap.size, 1, none⟩ = false := (hb.frozen (p := ⟨w.heap.size, 1, none⟩) (by simp)).trans (by simp)
    clear HB
    go_wp2
    go_region
    all_goals
      go_wp2
      refine bodyPost_ret (v := .tuple #[.slice none 0 0, .agg #[.int .i64 c, .int .i64 a]]) (by simp [results, Tryd.results20, go_sem, q0, q1, hz]) rfl ⟨_, rfl, HE2.out _ _, ?_⟩
      refine Below.drew (Below.alloc (Below.setCell (Below.setCell (Below.trans (Below.alloc (Below.refl _ _) ?_ _) (hb.mono ?_)) ?_ _) ?_ _) ?_ _) <;> first | omega | (simp; done) | (simp; omega)
theorem gl_is : GlIs := ⟨Odd_any, Apart_any⟩

end Go.Proofs.YtmifenflbaohnaaDoor
end

section
/- The laws' example of package partition: partitionBegun, out of what is asked of Count and Odd. -/
set_option linter.unusedSimpArgs false
set_option linter.unusedVariables false
set_option maxRecDepth 100000
namespace Go.Proofs.YtmifenflbaohnaaDoor
open Go.RowKit LgM

theorem pt_100 : PT.pt 100 100 = 190569292 := by
  have h := PT.pt_ok (n := 100) (by omega)
  unfold PT.okp at h
  simp only [Bool.and_eq_true, Bool.or_eq_true, Bool.not_eq_true'] at h
  rcases h.2.2.2.2.2.2 with h | h
  · simp at h
  · exact Nat.eq_of_beq_eq_true h
theorem dec_100 : Lib.decDigits 190569292 = [49, 57, 48, 53, 54, 57, 50, 57, 50] := by
  rw [dec_ge (by decide), dec_ge (by decide), dec_ge (by decide), dec_ge (by decide), dec_ge (by decide), dec_ge (by decide), dec_ge (by decide), dec_ge (by decide), dec_lt (by decide)]
  rfl
/-- What does not rise is told by its counts. -/
theorem dn_eq : ∀ (a b : List Int), (∀ j, j + 1 < a.length → a.getD (j + 1) 0 ≤ a.getD j 0) → (∀ j, j + 1 < b.length → b.getD (j + 1) 0 ≤ b.getD j 0) → (∀ x, PT.cnt a x = PT.cnt b x) → a = b
  | [], [], _, _, _ => rfl
  | [], y :: b, _, _, h => by have := h y; simp [PT.cnt] at this
  | x :: a, [], _, _, h => by have := h x; simp [PT.cnt] at this
  | x :: a, y :: b, ha, hb, h => by
    have top : ∀ (x : Int) (a : List Int), (∀ j, j + 1 < (x :: a).length → (x :: a).getD (j + 1) 0 ≤ (x :: a).getD j 0) → ∀ z ∈ x :: a, z ≤ x := by
      intro x a
      induction a generalizing x with
      | nil => intro _ z hz; simp at hz; omega
      | cons u a ih =>
        intro hd z hz
        have h1 := hd 0 (by simp)
        simp at h1
        rcases List.mem_cons.1 hz with e | e
        · omega
        · have := ih u (fun j hj => by have := hd (j + 1) (by simp at hj ⊢; omega); simpa using this) z e
          omega
    have mem : ∀ (l : List Int) (z : Int), 0 < PT.cnt l z ↔ z ∈ l := fun l z => by
      unfold PT.cnt
      rw [List.countP_pos_iff]
      constructor
      · rintro ⟨u, hu, e⟩; simp at e; rw [← e]; exact hu
      · intro hz; exact ⟨z, hz, by simp⟩
    have e1 : x ≤ y := top y b hb x ((mem _ _).1 (by rw [← h x]; exact (mem _ _).2 List.mem_cons_self))
    have e2 : y ≤ x := top x a ha y ((mem _ _).1 (by rw [h y]; exact (mem _ _).2 List.mem_cons_self))
    obtain rfl : x = y := by omega
    congr 1
    refine dn_eq a b (fun j hj => ?_) (fun j hj => ?_) (fun z => ?_)
    · have := ha (j + 1) (by simp; omega); simpa using this
    · have := hb (j + 1) (by simp; omega); simpa using this
    · have := h z
      unfold PT.cnt at this ⊢
      rw [List.countP_cons, List.countP_cons] at this
      omega
theorem od_61 : PT.od 6 = 3 ∧ PT.p2 6 = 2 ∧ PT.od 1 = 1 ∧ PT.p2 1 = 1 := by
  have a := PT.od_even (x := 6) (by decide) (by decide)
  have b := PT.p2_even (x := 6) (by decide) (by decide)
  have c := PT.od_odd (x := 3) (by decide)
  have d := PT.p2_odd (x := 3) (by decide)
  rw [show 6 / 2 = 3 by decide] at a b
  exact ⟨a.trans c, by rw [b, d], PT.od_odd (by decide), PT.p2_odd (by decide)⟩
theorem gl_61 {o : List Int} (h : PT.Gl [6, 1] o) : o = [3, 3, 1] := by
  obtain ⟨e1, e2, e3, e4⟩ := od_61
  refine dn_eq o [3, 3, 1] h.od (fun j hj => ?_) (fun x => ?_)
  · match j, hj with
    | 0, _ => decide
    | 1, _ => decide
  · have hw : ∀ n : Nat, PT.wsum [6, 1] (n : Int) = (if (3 : Int) = n then 2 else 0) + ((if (1 : Int) = n then 1 else 0) + 0) := fun n => by
      unfold PT.wsum
      simp only [List.map_cons, List.map_nil, List.sum_cons, List.sum_nil]
      rw [show (6 : Int).toNat = 6 from rfl, show (1 : Int).toNat = 1 from rfl, e1, e2, e3, e4]
      rfl
    have h331 : PT.cnt [3, 3, 1] x = (if (3 : Int) = x then 2 else 0) + ((if (1 : Int) = x then 1 else 0) + 0) := by
      unfold PT.cnt
      by_cases a : x = 3
      · subst a; rfl
      · by_cases b : x = 1
        · subst b; rfl
        · rw [if_neg (fun e => a e.symm), if_neg (fun e => b e.symm)]
          have a' : ((3 : Int) == x) = false := beq_eq_false_iff_ne.2 (fun e => a e.symm)
          have b' : ((1 : Int) == x) = false := beq_eq_false_iff_ne.2 (fun e => b e.symm)
          simp [List.countP_cons, a', b']
    by_cases hx : ∃ n : Nat, x = (n : Int) ∧ n ≤ 2000 ∧ n % 2 = 1
    · obtain ⟨n, rfl, h1, h2⟩ := hx
      rw [h.ct n h1 h2, hw n, h331]
    · have z : PT.cnt o x = 0 := by
        rcases Nat.eq_zero_or_pos (PT.cnt o x) with q | q
        · exact q
        · exfalso
          unfold PT.cnt at q
          have q := List.countP_pos_iff.1 q
          obtain ⟨u, hu, e⟩ := q
          obtain ⟨j, hj, ej⟩ := List.getElem_of_mem hu
          have hb := h.ob j hj
          have e' : u = x := by simpa using e
          have e3 : o.getD j 0 = x := by rw [List.getD_eq_getElem?_getD, List.getElem?_eq_getElem hj, ← e']; exact ej
          rw [e3] at hb
          exact hx ⟨x.toNat, by omega, by omega, by omega⟩
      rw [z, h331, if_neg (fun e => hx ⟨3, by omega, by omega, by omega⟩), if_neg (fun e => hx ⟨1, by omega, by omega, by omega⟩)]

set_option maxRecDepth 100000 in
set_option maxHeartbeats 4000000 in
theorem partitionBegun_of (hOd : ∀ (v : Value) (l : List Int) (w : World), IS w v l → I64 l → Calls Tryd.prog 19 #[v] w fun e w' => ∃ v', e = .returned (.tuple #[v', .agg #[.int .i64 (PT.odf l).1, .int .i64 (PT.odf l).2]]) ∧ OutO w'.heap.size l v' (PT.odf l).1 w' ∧ Below w.heap.size w w') (w : World) (hCt : Calls Tryd.prog 6 #[.int .i64 100] w fun e w' => e = .returned (.tuple #[.string ⟨(Lib.decDigits (PT.pt 100 100)).toArray⟩, .agg #[.int .i64 0, .int .i64 0]]) ∧ Below w.heap.size w w') :
    Calls Tryd.prog 8 #[] w fun e w' => e = .returned (.bool true) ∧ Below w.heap.size w w' := by
  rw [pt_100, dec_100] at hCt
  have HCt : Hid (Calls Tryd.prog 6 #[.int .i64 100] w fun e w' => e = .returned (.tuple #[.string ⟨[49, 57, 48, 53, 54, 57, 50, 57, 50].toArray⟩, .agg #[.int .i64 0, .int .i64 0]]) ∧ Below w.heap.size w w') := hCt
  have hl : PT.odf [6, 1] = (0, 0) := by decide
  have HOd : Hid (∀ v w, IS w v [6, 1] → Calls Tryd.prog 19 #[v] w fun e w' => ∃ v', e = .returned (.tuple #[v', .agg #[.int .i64 0, .int .i64 0]]) ∧ IS w' v' [3, 3, 1] ∧ Below w.heap.size w w') := fun v w h => by
    have := hOd v [6, 1] w h ⟨by simp, fun x hx => by simp at hx; omega⟩
    rw [hl] at this
    refine this.mono ?_
    rintro e w' ⟨v', rfl, ho, k⟩
    rcases ho with ⟨h0, _⟩ | ⟨_, o, h1, h2, h3⟩
    · exact absurd rfl h0
    · rw [gl_61 h3] at h1
      exact ⟨v', rfl, h1.is (Nat.le_refl _), k⟩
  clear hOd hCt hl
  go_enter Tryd.func8, Tryd.ntmps8
  go_wp2_with fail
  refine HCt.out.mono ?_
  rintro e w1 ⟨rfl, k1⟩
  go_wp2_with fail
  obtain ⟨b2, hb2⟩ : ∃ b, w1.heap.size = b := ⟨_, rfl⟩
  have kb := below_one w1 (.cells #[.int .i64 0, .int .i64 0] 23)
  have kc := below_one (w1.alloc (.cells #[.int .i64 0, .int .i64 0] 23)) (.cells #[.int .i64 6, .int .i64 1] 3)
  obtain ⟨W3, hW3⟩ : ∃ W, (w1.alloc (.cells #[.int .i64 0, .int .i64 0] 23)).alloc (.cells #[.int .i64 6, .int .i64 1] 3) = W := ⟨_, rfl⟩
  have K3 : Hid (Sv b2 0 0 W3 ∧ Below w.heap.size w W3 ∧ IS W3 (.slice (some ⟨w1.heap.size + 1, 0, none⟩) 2 2) [6, 1]) := by
    show _ ∧ _
    have C := Cl.new [.int .i64 6, .int .i64 1] 3 (w1.alloc (.cells #[.int .i64 0, .int .i64 0] 23))
    rw [World.size_alloc] at C
    rw [← hW3]
    refine ⟨(Sv.fresh 0 0 hb2).below kc, (k1.trans (kb.mono k1.size)).trans (kc.mono (k1.trans (kb.mono k1.size)).size), ⟨_, w1.heap.size + 1, 0, 2, rfl, fun _ => rfl, fun i hi => ?_, fun _ => C.lt⟩⟩
    match i, hi with
    | 0, _ => exact C.cell 0
    | 1, _ => exact C.cell 1
  rw [hb2] at K3
  rw [hW3, hb2]
  clear hW3 hb2 kb kc k1 HCt
  refine (HOd.out _ _ K3.out.2.2).mono ?_
  rintro e w4 ⟨vo, rfl, hv, k4⟩
  have K4 : Hid (Sv b2 0 0 w4 ∧ Below w.heap.size w w4 ∧ IS w4 vo [3, 3, 1]) := ⟨K3.out.1.below k4, K3.out.2.1.trans (k4.mono K3.out.2.1.size), hv⟩
  clear k4 hv K3 HOd
  have z0 : ∀ o : Obj, (w4.alloc o).cell? ⟨b2, 0, none⟩ = some (.int .i64 0) := fun o => (K4.out.1.below (below_one w4 o)).c0
  go_wp2_with fail
  have kb := below_one w4 (.cells #[.int .i64 0, .int .i64 0] 23)
  have kc := below_one (w4.alloc (.cells #[.int .i64 0, .int .i64 0] 23)) (.cells #[.int .i64 3, .int .i64 3, .int .i64 1] 3)
  have kk := kb.trans (kc.mono kb.size)
  have C := Cl.new [.int .i64 3, .int .i64 3, .int .i64 1] 3 (w4.alloc (.cells #[.int .i64 0, .int .i64 0] 23))
  rw [World.size_alloc] at C
  have KI := K4.out.2.1.trans (kk.mono K4.out.2.1.size)
  refine (ints_yes _ _ [3, 3, 1] _ (K4.out.2.2.belowP kk) ⟨_, w4.heap.size + 1, 0, 3, rfl, fun _ => rfl, fun i hi => ?_, fun _ => C.lt⟩ (by decide)).mono ?_
  · match i, hi with
    | 0, _ => exact C.cell 0
    | 1, _ => exact C.cell 1
    | 2, _ => exact C.cell 2
  rintro e w6 ⟨rfl, k6⟩
  have K6 : Hid (Below w.heap.size w w6) := KI.trans (k6.mono KI.size)
  clear kb kc kk C KI k6 z0
  go_wp2
  go_ret
  exact ⟨rfl, K6.out⟩

end Go.Proofs.YtmifenflbaohnaaDoor
end
