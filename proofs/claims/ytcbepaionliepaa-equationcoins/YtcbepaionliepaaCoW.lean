/- The law EquationCoins: what stands in memory, and how its classes part. Written by mkco.py. -/
import Derived.Test.YtcbepaionliepaaCoD
import Derived.Test.YtcbepaionliepaaCoR
import Derived.Test.YtcbepaionliepaaMkG
import Derived.Test.YtcbepaionliepaaWholeD
import Derived.Test.YtcbepaionliepaaIntsAny
import Derived.Deep.Onto
set_option linter.unusedSimpArgs false
set_option linter.unusedVariables false
set_option maxRecDepth 100000
namespace Go.Proofs.Ytcbepaionliepaa
open Go.RowKit

/-- What stands in memory while the law goes on: two faults, the list and its copy. -/
structure Cb (w W : World) (b6 b7 gs os go oo : Nat) (xs : List Int) (p q p' q' : Int) : Prop where
  f : Sv b6 p q W
  v : Sv b7 p' q' W
  ne : b6 ≠ b7
  l7 : w.heap.size ≤ b7
  k : Below w.heap.size w W
  s : ∀ j, j < xs.length → W.cell? ⟨gs, os + j, none⟩ = some (.int .i64 (xs.getD j 0))
  sl : 0 < xs.length → gs < b7
  o : ∀ j, j < xs.length → W.cell? ⟨go, oo + j, none⟩ = some (.int .i64 (xs.getD j 0))
  ol : 0 < xs.length → go < b7
theorem Cb.below {w W W' : World} {b6 b7 gs os go oo : Nat} {xs : List Int} {p q p' q' : Int} (h : Cb w W b6 b7 gs os go oo xs p q p' q') (k : Below W.heap.size W W') : Cb w W' b6 b7 gs os go oo xs p q p' q' :=
  ⟨h.f.below k, h.v.below k, h.ne, h.l7, h.k.trans (k.mono h.k.size), fun j hj => (k.cell (p := ⟨gs, os + j, none⟩) (Nat.lt_trans (h.sl (by omega)) h.v.lt)).trans (h.s j hj), h.sl, fun j hj => (k.cell (p := ⟨go, oo + j, none⟩) (Nat.lt_trans (h.ol (by omega)) h.v.lt)).trans (h.o j hj), h.ol⟩
theorem Cb.set {w W : World} {b6 b7 gs os go oo : Nat} {xs : List Int} {p q p' q' : Int} (h : Cb w W b6 b7 gs os go oo xs p q p' q') (x y : Int) : Cb w ((W.setCell ⟨b7, 0, none⟩ (.int .i64 x)).setCell ⟨b7, 1, none⟩ (.int .i64 y)) b6 b7 gs os go oo xs p q x y := by
  have st : ∀ (g o : Nat), g ≠ b7 → ((W.setCell ⟨b7, 0, none⟩ (.int .i64 x)).setCell ⟨b7, 1, none⟩ (.int .i64 y)).cell? ⟨g, o, none⟩ = W.cell? ⟨g, o, none⟩ := fun g o hg => (World.cell?_of_block (Below.heap_setCell _ ⟨b7, 1, none⟩ _ g hg)).trans (World.cell?_of_block (Below.heap_setCell _ ⟨b7, 0, none⟩ _ g hg))
  exact ⟨h.f.other _ _ (Ne.symm h.ne), h.v.set x y, h.ne, h.l7, (h.k.setCell h.l7 _).setCell h.l7 _, fun j hj => (st _ _ (by have := h.sl (by omega); omega)).trans (h.s j hj), h.sl, fun j hj => (st _ _ (by have := h.ol (by omega); omega)).trans (h.o j hj), h.ol⟩
theorem Cb.is {w W : World} {b6 b7 gs os go oo : Nat} {xs : List Int} {p q p' q' : Int} (h : Cb w W b6 b7 gs os go oo xs p q p' q') {aa : Option Addr} (c : Nat) (ha : 0 < xs.length → aa = some ⟨gs, os, none⟩) : IS W (.slice aa xs.length c) xs := ⟨aa, gs, os, c, rfl, ha, h.s, fun h0 => Nat.lt_trans (h.sl h0) h.v.lt⟩
theorem Cb.io {w W : World} {b6 b7 gs os go oo : Nat} {xs : List Int} {p q p' q' : Int} (h : Cb w W b6 b7 gs os go oo xs p q p' q') {aa : Option Addr} (c : Nat) (ha : 0 < xs.length → aa = some ⟨go, oo, none⟩) : IS W (.slice aa xs.length c) xs := ⟨aa, go, oo, c, rfl, ha, h.o, fun h0 => Nat.lt_trans (h.ol h0) h.v.lt⟩
theorem cb_new {w w1 w2 : World} {gs os go oo : Nat} {xs : List Int} (p q : Int) (k1 : Below w.heap.size w w1) (k2 : Below w1.heap.size w1 w2) (hs : ∀ j, j < xs.length → w1.cell? ⟨gs, os + j, none⟩ = some (.int .i64 (xs.getD j 0))) (ls : 0 < xs.length → gs < w1.heap.size) (ho : ∀ j, j < xs.length → w1.cell? ⟨go, oo + j, none⟩ = some (.int .i64 (xs.getD j 0))) (lo : 0 < xs.length → go < w1.heap.size) :
    Cb w ((w2.alloc (.cells #[.int .i64 p, .int .i64 q] 23)).alloc (.cells #[.int .i64 0, .int .i64 0] 23)) w2.heap.size (w2.heap.size + 1) gs os go oo xs p q 0 0 := by
  have sn : ∀ (W : World) (z : Nat), W.heap.size = z → Sv z 0 0 (W.alloc (.cells #[.int .i64 0, .int .i64 0] 23)) := fun W z hz => by subst hz; exact Sv.new 0 0 W
  have h1 := k1.size
  have h2 := k2.size
  have kk : Below w1.heap.size w1 ((w2.alloc (.cells #[.int .i64 p, .int .i64 q] 23)).alloc (.cells #[.int .i64 0, .int .i64 0] 23)) := Below.alloc (Below.alloc k2 h2 _) (by simp; omega) _
  refine ⟨(Sv.new p q w2).alloc _ _, sn _ _ (by simp), by omega, by omega, k1.trans (kk.mono h1), fun j hj => (kk.cell (p := ⟨gs, os + j, none⟩) (ls (by omega))).trans (hs j hj), fun h => by have := ls h; omega, fun j hj => (kk.cell (p := ⟨go, oo + j, none⟩) (lo (by omega))).trans (ho j hj), fun h => by have := lo h; omega⟩

/-- How Coins' classes part. -/
def inC (x : Int) : Prop := 1 ≤ x ∧ x ≤ 1000
theorem co_first (xs : List Int) : (∀ j, j < xs.length → inC (xs.getD j 0)) ∨ ∃ k, k < xs.length ∧ (∀ j, j < k → inC (xs.getD j 0)) ∧ ¬ inC (xs.getD k 0) := by
  by_cases h : ∀ j, j < xs.length → inC (xs.getD j 0)
  · exact .inl h
  · right
    have key : ∀ n, n ≤ xs.length → (∀ j, j < n → inC (xs.getD j 0)) ∨ ∃ k, k < n ∧ (∀ j, j < k → inC (xs.getD j 0)) ∧ ¬ inC (xs.getD k 0) := fun n => by
      induction n with
      | zero => intro _; exact .inl (fun j hj => by omega)
      | succ n ih =>
        intro hn
        rcases ih (by omega) with h1 | ⟨k, h1, h2, h3⟩
        · by_cases hc : inC (xs.getD n 0)
          · refine .inl (fun j hj => ?_)
            by_cases e : j = n
            · rw [e]; exact hc
            · exact h1 j (by omega)
          · exact .inr ⟨n, by omega, h1, hc⟩
        · exact .inr ⟨k, by omega, h2, h3⟩
    rcases key xs.length (Nat.le_refl _) with h1 | h1
    · exact absurd h1 h
    · exact h1
theorem nb_bad {xs : List Int} {k : Nat} (hk : k < xs.length) (h1 : ∀ j, j < k → inC (xs.getD j 0)) (h2 : ¬ inC (xs.getD k 0)) : nb 1 1000 0 xs = (3, (k : Int)) :=
  nb_hit 1 1000 xs k hk (fun j hj => by have := h1 j hj; unfold inC at this; simp only [bwB, Bool.and_eq_true, decide_eq_true_eq]; omega) (by unfold inC at h2; simp only [bwB, Bool.and_eq_false_iff, decide_eq_false_iff_not]; omega)
def lw (l : List Nat) : Nat → Nat
  | 0 => 1001
  | i + 1 => min (lw l i) (l.getD i 0)
def hg (l : List Nat) : Nat → Nat
  | 0 => 0
  | i + 1 => max (hg l i) (l.getD i 0)
theorem lw_le (l : List Nat) (i : Nat) : lw l i ≤ 1001 := by
  induction i with
  | zero => exact Nat.le_refl _
  | succ i ih => rw [lw]; omega
theorem hg_le {l : List Nat} {i : Nat} (h : ∀ j, j < i → l.getD j 0 ≤ 1000) : hg l i ≤ 1000 := by
  induction i with
  | zero => exact Nat.zero_le _
  | succ i ih => rw [hg]; have := ih (fun j hj => h j (by omega)); have := h i (by omega); omega
theorem hg_ge {l : List Nat} : ∀ (i j : Nat), j < i → l.getD j 0 ≤ hg l i
  | i + 1, j, h => by
    rw [hg]
    by_cases e : j = i
    · subst e; omega
    · have := hg_ge (l := l) i j (by omega); omega
theorem lw_mn {l : List Nat} (h : ∀ j, j < l.length → l.getD j 0 ≤ 1000) : ∀ i, i < l.length → lw l (i + 1) = mn (fun j => l.getD j 0) i
  | 0, hi => by rw [lw, lw, mn]; have := h 0 hi; omega
  | i + 1, hi => by rw [lw, lw_mn h i (by omega), mn]
theorem gt_bd {l : List Nat} (h : ∀ j, j < l.length → l.getD j 0 ≤ 1000) {i : Nat} (hi : i ≤ l.length) : gt l i ≤ 1000 := gt_le l i hi 1000 h
theorem nat_of {xs : List Int} (h : ∀ j, j < xs.length → inC (xs.getD j 0)) : ∃ l : List Nat, xs = l.map (fun n : Nat => (n : Int)) ∧ l.length = xs.length ∧ (∀ j, j < l.length → 1 ≤ l.getD j 0 ∧ l.getD j 0 ≤ 1000) ∧ ∀ j, xs.getD j 0 = ((l.getD j 0 : Nat) : Int) := by
  have e : xs = (xs.map Int.toNat).map (fun n : Nat => (n : Int)) := by
    rw [List.map_map]
    apply List.ext_getElem (by simp)
    intro i h1 h2
    have := h i h1
    rw [List.getD_eq_getElem?_getD, List.getElem?_eq_getElem h1, Option.getD_some] at this
    unfold inC at this
    simp
    omega
  have g : ∀ j, xs.getD j 0 = (((xs.map Int.toNat).getD j 0 : Nat) : Int) := fun j => by
    rw [List.getD_eq_getElem?_getD, List.getD_eq_getElem?_getD, List.getElem?_map]
    by_cases hj : j < xs.length
    · have := h j hj
      rw [List.getD_eq_getElem?_getD, List.getElem?_eq_getElem hj, Option.getD_some] at this
      unfold inC at this
      rw [List.getElem?_eq_getElem hj]
      simp
      omega
    · rw [List.getElem?_eq_none (by omega)]; rfl
  refine ⟨xs.map Int.toNat, e, by simp, fun j hj => ?_, g⟩
  have := h j (by simpa using hj)
  rw [g j] at this
  unfold inC at this
  omega

end Go.Proofs.Ytcbepaionliepaa
