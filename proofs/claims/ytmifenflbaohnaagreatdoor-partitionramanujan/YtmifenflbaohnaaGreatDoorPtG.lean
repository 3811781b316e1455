/- What is asked of Odd and Apart, for the law's walk; its boxes. -/
import Derived.Test.YtmifenflbaohnaaGreatDoorPtF
import Derived.Test.YtmifenflbaohnaaGreatDoorPtE
set_option linter.unusedSimpArgs false
set_option linter.unusedVariables false
set_option maxRecDepth 100000
namespace Go.Proofs.YtmifenflbaohnaaGreatDoor
open Go.RowKit
namespace PT

/-- The first place at which P holds. -/
def ff (P : Nat → Bool) : Nat → Nat → Int × Int
  | 0, _ => (0, 0)
  | f + 1, i => if P i = true then (7, (i : Int)) else ff P f (i + 1)
def odP (l : List Int) (i : Nat) : Bool := decide (0 < i) && decide (prv l i = l.getD i 0)
def apP (l : List Int) (i : Nat) : Bool := decide (l.getD i 0 % 2 = 0)
def odf (l : List Int) : Int × Int := if (pf l).1 = 0 then ff (odP l) l.length 0 else pf l
def apf (l : List Int) : Int × Int := if (pf l).1 = 0 then ff (apP l) l.length 0 else pf l
theorem ff_yes {P : Nat → Bool} {n i : Nat} (h : i < n) (hp : P i = true) : ff P (n - i) i = (7, (i : Int)) := by
  obtain ⟨d, hd⟩ : ∃ d, n - i = d + 1 := ⟨n - i - 1, by omega⟩
  rw [hd, ff, if_pos hp]
theorem ff_no {P : Nat → Bool} {n i : Nat} (h : i < n) (hp : P i = false) : ff P (n - i) i = ff P (n - (i + 1)) (i + 1) := by
  obtain ⟨d, hd⟩ : ∃ d, n - i = d + 1 := ⟨n - i - 1, by omega⟩
  rw [hd, ff, if_neg (by rw [hp]; decide), show n - (i + 1) = d by omega]
/-- How far the search is. -/
def Sf (t : Int × Int) (P : Nat → Bool) (n i : Nat) (c a : Int) : Prop := (c = 0 ∧ a = 0 ∧ t = ff P (n - i) i) ∨ (c ≠ 0 ∧ t = (c, a))
theorem Sf.fin {t : Int × Int} {P : Nat → Bool} {n i : Nat} {c a : Int} (h : Sf t P n i c a) (he : ¬ (i < n ∧ c = 0)) (hi : i ≤ n) : t = (c, a) := by
  rcases h with ⟨h1, h2, h3⟩ | ⟨_, h⟩
  · rw [h3, show n - i = 0 by omega, h1, h2]; rfl
  · exact h
theorem Sf.start {l : List Int} {P : Nat → Bool} {p q : Int} (h : pf l = (p, q)) : Sf (if (pf l).1 = 0 then ff P l.length 0 else pf l) P l.length 0 p q := by
  by_cases h0 : (pf l).1 = 0
  · rw [if_pos h0]
    have := pf_zero h0
    rw [h] at this
    injection this with a b
    exact .inl ⟨a, b, rfl⟩
  · rw [if_neg h0]
    refine .inr ⟨by rw [h] at h0; exact h0, h⟩

end PT

/-- A slice of numbers whose array lies below B. -/
structure Ib (B : Nat) (w : World) (s : Value) (xs : List Int) : Prop where
  shape : ∃ (aa : Option Addr) (g o cap : Nat), s = .slice aa xs.length cap ∧ (0 < xs.length → aa = some ⟨g, o, none⟩) ∧ (∀ i, i < xs.length → w.cell? ⟨g, o + i, none⟩ = some (.int .i64 (xs.getD i 0))) ∧ (0 < xs.length → g < B)
theorem IS.ib {w : World} {s : Value} {xs : List Int} (h : IS w s xs) : Ib w.heap.size w s xs := ⟨h.shape⟩
theorem Ib.is {B : Nat} {w : World} {s : Value} {xs : List Int} (h : Ib B w s xs) (hB : B ≤ w.heap.size) : IS w s xs := by
  obtain ⟨aa, g, o, cap, h1, h2, h3, h4⟩ := h.shape
  exact ⟨aa, g, o, cap, h1, h2, h3, fun h => Nat.lt_of_lt_of_le (h4 h) hB⟩
theorem Ib.below {B B' : Nat} {w w' : World} {s : Value} {xs : List Int} (h : Ib B w s xs) (k : Below B' w w') (hB : B ≤ B') : Ib B w' s xs := by
  obtain ⟨aa, g, o, cap, h1, h2, h3, h4⟩ := h.shape
  exact ⟨aa, g, o, cap, h1, h2, fun i hi => (k.cell (p := ⟨g, o + i, none⟩) (Nat.lt_of_lt_of_le (h4 (by omega)) hB)).trans (h3 i hi), h4⟩
theorem Ib.mono {B B' : Nat} {w : World} {s : Value} {xs : List Int} (h : Ib B w s xs) (hB : B ≤ B') : Ib B' w s xs := by
  obtain ⟨aa, g, o, cap, h1, h2, h3, h4⟩ := h.shape
  exact ⟨aa, g, o, cap, h1, h2, h3, fun h => Nat.lt_of_lt_of_le (h4 h) hB⟩
theorem Ib.set {B b : Nat} {w : World} {s : Value} {xs : List Int} (h : Ib B w s xs) (hb : B ≤ b) (x y : Value) : Ib B ((w.setCell ⟨b, 0, none⟩ x).setCell ⟨b, 1, none⟩ y) s xs := by
  obtain ⟨aa, g, o, cap, h1, h2, h3, h4⟩ := h.shape
  refine ⟨aa, g, o, cap, h1, h2, fun i hi => ?_, h4⟩
  have hg : g ≠ b := by have := h4 (by omega); omega
  exact ((World.cell?_of_block (Below.heap_setCell _ ⟨b, 1, none⟩ _ g hg)).trans (World.cell?_of_block (Below.heap_setCell _ ⟨b, 0, none⟩ _ g hg))).trans (h3 i hi)
theorem Ib.at {B N ca : Nat} {ad : Addr} {w : World} {xs : List Int} (h : Ib B w (.slice (some ad) N ca) xs) (h0 : 0 < xs.length) : ∃ g o, ad = ⟨g, o, none⟩ ∧ ∀ j, j < xs.length → w.cell? ⟨g, o + j, none⟩ = some (.int .i64 (xs.getD j 0)) := by
  obtain ⟨aa, g, o, cap, h1, h2, h3, h4⟩ := h.shape
  simp only [Value.slice.injEq] at h1
  have h5 := h2 h0
  rw [← h1.1] at h5
  exact ⟨g, o, Option.some.inj h5, h3⟩
/-- Falling. -/
def Sd (a : List Int) : Prop := ∀ j, j + 1 < a.length → a.getD (j + 1) 0 < a.getD j 0
/-- What Odd, and what Apart answers. -/
def OutO (B : Nat) (l : List Int) (v : Value) (c : Int) (W : World) : Prop := (c ≠ 0 ∧ v = .slice none 0 0) ∨ (c = 0 ∧ ∃ o, Ib B W v o ∧ o.length ≤ 10000 ∧ PT.Gl l o)
def OutA (B : Nat) (l : List Int) (v : Value) (c : Int) (W : World) : Prop := (c ≠ 0 ∧ v = .slice none 0 0) ∨ (c = 0 ∧ ∃ a, Ib B W v a ∧ a.length ≤ 10000 ∧ PT.Gl a l ∧ Sd a)
theorem OutO.imp {B B' : Nat} {l : List Int} {v : Value} {c : Int} {W W' : World} (h : OutO B l v c W) (f : ∀ o, Ib B W v o → Ib B' W' v o) : OutO B' l v c W' := by
  rcases h with h | ⟨h1, o, h2, h3⟩
  · exact .inl h
  · exact .inr ⟨h1, o, f o h2, h3⟩
theorem OutA.imp {B B' : Nat} {l : List Int} {v : Value} {c : Int} {W W' : World} (h : OutA B l v c W) (f : ∀ o, Ib B W v o → Ib B' W' v o) : OutA B' l v c W' := by
  rcases h with h | ⟨h1, o, h2, h3⟩
  · exact .inl h
  · exact .inr ⟨h1, o, f o h2, h3⟩
/-- The law's boxes: what Odd and Apart told, the two faults that are asked; the lists. -/
structure Gb (w W : World) (b5 b7 b8 b9 : Nat) (fo fa : Int × Int) (c8 a8 c9 a9 : Int) (v v1 vo va : Value) (xs : List Int) : Prop where
  s5 : Sv b5 fo.1 fo.2 W
  s7 : Sv b7 fa.1 fa.2 W
  s8 : Sv b8 c8 a8 W
  s9 : Sv b9 c9 a9 W
  n5 : b5 < b8
  n7 : b7 < b8
  n9 : b8 < b9
  v : Ib b8 W v xs
  o : Ib b8 W v1 xs
  oo : OutO b8 xs vo fo.1 W
  oa : OutA b8 xs va fa.1 W
  k : Below w.heap.size w W
  w8 : w.heap.size ≤ b8
theorem Gb.below {w W W' : World} {b5 b7 b8 b9 : Nat} {fo fa : Int × Int} {c8 a8 c9 a9 : Int} {v v1 vo va : Value} {xs : List Int} (h : Gb w W b5 b7 b8 b9 fo fa c8 a8 c9 a9 v v1 vo va xs) (k : Below W.heap.size W W') : Gb w W' b5 b7 b8 b9 fo fa c8 a8 c9 a9 v v1 vo va xs := by
  have h8 := h.s8.lt
  exact ⟨h.s5.below k, h.s7.below k, h.s8.below k, h.s9.below k, h.n5, h.n7, h.n9, h.v.below k (by omega), h.o.below k (by omega), h.oo.imp (fun o q => q.below k (by omega)), h.oa.imp (fun o q => q.below k (by omega)), h.k.trans (k.mono h.k.size), h.w8⟩
theorem Gb.set8 {w W : World} {b5 b7 b8 b9 : Nat} {fo fa : Int × Int} {c8 a8 c9 a9 : Int} {v v1 vo va : Value} {xs : List Int} (h : Gb w W b5 b7 b8 b9 fo fa c8 a8 c9 a9 v v1 vo va xs) (x y : Int) : Gb w ((W.setCell ⟨b8, 0, none⟩ (.int .i64 x)).setCell ⟨b8, 1, none⟩ (.int .i64 y)) b5 b7 b8 b9 fo fa x y c9 a9 v v1 vo va xs := by
  have n5 := h.n5
  have n7 := h.n7
  have n9 := h.n9
  exact ⟨h.s5.other _ _ (by omega), h.s7.other _ _ (by omega), h.s8.set x y, h.s9.other _ _ (by omega), h.n5, h.n7, h.n9, h.v.set (Nat.le_refl _) _ _, h.o.set (Nat.le_refl _) _ _, h.oo.imp (fun o q => q.set (Nat.le_refl _) _ _), h.oa.imp (fun o q => q.set (Nat.le_refl _) _ _), (h.k.setCell h.w8 _).setCell h.w8 _, h.w8⟩
theorem Gb.set9 {w W : World} {b5 b7 b8 b9 : Nat} {fo fa : Int × Int} {c8 a8 c9 a9 : Int} {v v1 vo va : Value} {xs : List Int} (h : Gb w W b5 b7 b8 b9 fo fa c8 a8 c9 a9 v v1 vo va xs) (x y : Int) : Gb w ((W.setCell ⟨b9, 0, none⟩ (.int .i64 x)).setCell ⟨b9, 1, none⟩ (.int .i64 y)) b5 b7 b8 b9 fo fa c8 a8 x y v v1 vo va xs := by
  have n5 := h.n5
  have n7 := h.n7
  have n9 := h.n9
  have w8 := h.w8
  exact ⟨h.s5.other _ _ (by omega), h.s7.other _ _ (by omega), h.s8.other _ _ (by omega), h.s9.set x y, h.n5, h.n7, h.n9, h.v.set (by omega) _ _, h.o.set (by omega) _ _, h.oo.imp (fun o q => q.set (by omega) _ _), h.oa.imp (fun o q => q.set (by omega) _ _), (h.k.setCell (by show w.heap.size ≤ b9; omega) _).setCell (by show w.heap.size ≤ b9; omega) _, h.w8⟩

end Go.Proofs.YtmifenflbaohnaaGreatDoor
