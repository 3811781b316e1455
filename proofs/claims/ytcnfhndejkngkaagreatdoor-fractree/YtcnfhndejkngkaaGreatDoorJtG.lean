import Derived.Test.YtcnfhndejkngkaaGreatDoorJtC
import Derived.RangeFuncNested
import Derived.RangeFuncBound
import Derived.RangeFuncCalls
import Derived.RangeFuncLeaves
import Derived.Shelf.Abstract
import Derived.Shelf.RegionOpen
import Derived.OwnWalkIn
import Derived.TacticsInMore
import Derived.LoopNIn
import Derived.LoopIn
import Derived.Maps.OwnIn
section
/- A fault that a variable holds. -/
set_option linter.unusedSimpArgs false
set_option linter.unusedVariables false
set_option maxRecDepth 100000
namespace Go.Proofs.YtcnfhndejkngkaaGreatDoor
open Go.RowKit

/-- A fault that a variable holds, in block b. -/
structure Sv (b : Nat) (c d : Int) (w : World) : Prop where
  c0 : w.cell? ⟨b, 0, none⟩ = some (.int .i64 c)
  c1 : w.cell? ⟨b, 1, none⟩ = some (.int .i64 d)
  f0 : w.frozen? ⟨b, 0, none⟩ = false
  f1 : w.frozen? ⟨b, 1, none⟩ = false
  lt : b < w.heap.size

theorem Sv.below {b : Nat} {c d : Int} {w w' : World} (h : Sv b c d w) (k : Below w.heap.size w w') : Sv b c d w' :=
  ⟨cell_later k h.c0, cell_later k h.c1, (k.frozen (p := ⟨b, 0, none⟩) h.lt).trans h.f0, (k.frozen (p := ⟨b, 1, none⟩) h.lt).trans h.f1, Nat.lt_of_lt_of_le h.lt k.size⟩
theorem Sv.drew {b : Nat} {c d : Int} {w : World} (h : Sv b c d w) : Sv b c d w.drew := ⟨h.c0, h.c1, h.f0, h.f1, h.lt⟩
theorem Sv.drewN {b n : Nat} {c d : Int} {w : World} (h : Sv b c d w) : Sv b c d (w.drewN n) := h.below (below_drewN' (Below.refl _ _))
theorem Sv.alloc {b : Nat} {c d : Int} {w : World} (h : Sv b c d w) (C : Array Value) (t : TypeId) : Sv b c d (w.alloc (.cells C t)) := h.below (Below.alloc (Below.refl _ _) (Nat.le_refl _) _)
theorem Sv.new (c d : Int) (w : World) : Sv w.heap.size c d (w.alloc (.cells #[.int .i64 c, .int .i64 d] 25)) :=
  ⟨by simp, by simp, by simp, by simp, by simp⟩
theorem Sv.set {b : Nat} {c d : Int} {w : World} (h : Sv b c d w) (x y : Int) : Sv b x y ((w.setCell ⟨b, 0, none⟩ (.int .i64 x)).setCell ⟨b, 1, none⟩ (.int .i64 y)) := by
  obtain ⟨c0, c1, f0, f1, lt⟩ := h
  exact ⟨by go_simp, by go_simp, by go_simp, by go_simp, by simpa using lt⟩
theorem Sv.other {b b' : Nat} {c d : Int} {w : World} (h : Sv b c d w) (x y : Value) (hne : b' ≠ b) : Sv b c d ((w.setCell ⟨b', 0, none⟩ x).setCell ⟨b', 1, none⟩ y) := by
  have k : ∀ v : World, ∀ o : Nat, ∀ z : Value, (v.setCell ⟨b', o, none⟩ z).heap[b]? = v.heap[b]? := fun v o z => Below.heap_setCell _ _ _ _ (Ne.symm hne)
  have e : ((w.setCell ⟨b', 0, none⟩ x).setCell ⟨b', 1, none⟩ y).heap[b]? = w.heap[b]? := (k _ _ _).trans (k _ _ _)
  refine ⟨?_, ?_, ?_, ?_, by simpa using h.lt⟩
  · exact (World.cell?_of_block e).trans h.c0
  · exact (World.cell?_of_block e).trans h.c1
  · exact (World.frozen?_of_block e).trans h.f0
  · exact (World.frozen?_of_block e).trans h.f1

end Go.Proofs.YtcnfhndejkngkaaGreatDoor
end

section
/- A range over an iterator that keeps a list of its own in one block; the body may write into blocks of its own. -/
set_option linter.unusedSimpArgs false
set_option linter.unusedVariables false
set_option maxRecDepth 100000
namespace Go.Proofs.YtcnfhndejkngkaaGreatDoor
open Go.RowKit

/-- The blocks of S that were there are as they were. -/
structure KP (S : Nat → Prop) (W W' : World) : Prop where
  size : W.heap.size ≤ W'.heap.size
  block : ∀ k, S k → k < W.heap.size → W'.heap[k]? = W.heap[k]?
theorem KP.refl (S : Nat → Prop) (W : World) : KP S W W := ⟨Nat.le_refl _, fun _ _ _ => rfl⟩
theorem KP.trans {S : Nat → Prop} {x y z : World} (h : KP S x y) (k : KP S y z) : KP S x z :=
  ⟨Nat.le_trans h.size k.size, fun i h1 h2 => (k.block i h1 (Nat.lt_of_lt_of_le h2 h.size)).trans (h.block i h1 h2)⟩
theorem KP.mono {S S' : Nat → Prop} {x y : World} (h : KP S x y) (hS : ∀ k, S' k → S k) : KP S' x y := ⟨h.size, fun k h1 h2 => h.block k (hS k h1) h2⟩
theorem KP.setCell {S : Nat → Prop} {x y : World} (h : KP S x y) {p : Addr} (hp : ¬ S p.block) (u : Value) : KP S x (y.setCell p u) :=
  h.trans ⟨by simp [World.setCell], fun k h1 h2 => Below.heap_setCell _ _ _ _ (fun e => hp (by rw [← e]; exact h1))⟩
theorem KP.alloc {S : Nat → Prop} {x y : World} (h : KP S x y) (o : Obj) : KP S x (y.alloc o) :=
  h.trans ⟨by simp, fun k h1 h2 => Below.heap_alloc _ _ _ h2⟩
theorem KP.below {S : Nat → Prop} {x y z : World} (h : KP S x y) (k : Below y.heap.size y z) : KP S x z := h.trans ⟨k.size, fun i _ h2 => k.block i h2⟩
theorem KP.grown {S : Nat → Prop} {x y z : World} {row : Option Nat} (h : KP S x y) (hg : y.grownBy z row) (hr : ∀ r, row = some r → ¬ S r) : KP S x z :=
  h.trans ⟨hg.size, fun k h1 h2 => hg.block k h2 (fun e => hr k e.symm h1)⟩
theorem KP.put {S : Nat → Prop} (W : World) (l : Nat) (o : Obj) (hl : ¬ S l) : KP S W (W.putObj l o) :=
  ⟨by simp, fun k h1 h2 => World.putObj_heap_other (fun e => hl (e ▸ h1))⟩

theorem grownBy_more {W W' : World} (h : W.grownBy W' none) (o : Option Nat) : W.grownBy W' o :=
  ⟨h.os, h.tape, h.output, h.size, fun k hk _ => h.block k hk (by simp)⟩

/-- What is said of the world hangs not on the iterator's block, and stays where the iterator takes a new one. -/
def AbO (J : Option Nat → List Int → World → Prop) : Prop :=
  ∀ o s W W' o', J o s W → W.grownBy W' o → (o' = o ∨ ∃ g, o' = some g ∧ W.heap.size ≤ g) → J o' s W'
theorem AbO.alloc {J : Option Nat → List Int → World → Prop} (h : AbO J) {o : Option Nat} {s : List Int} {W : World} (ob : Obj) (hs : J o s W) : J o s (W.alloc ob) :=
  h o s W _ o hs (grownBy_more (World.grownBy_alloc W ob none) o) (.inl rfl)

/-- The iterator yields the numbers xs in their order, for as long as it is asked for more; the body leaves it at the last one at the latest. -/
def YieldsO (F : Fence) (n : Nat) (P : Program) (g : Nat) (xs : List Int) : Prop :=
  ∀ (l : Nat) (J Jx : Option Nat → List Int → World → Prop) (W : World), AbO J →
    (∀ o pre x W1, J o pre W1 → (∀ g, o = some g → W.heap.size ≤ g ∧ g < W1.heap.size) → W.heap.size ≤ W1.heap.size → pre ++ [x] <+: xs → YieldAt F (n - 1) P l #[.int .i64 x] W1 fun e W' =>
      (e = .returned (.bool true) ∧ J o (pre ++ [x]) W' ∧ W1.heap.size ≤ W'.heap.size ∧ ∀ g, o = some g → W'.heap[g]? = W1.heap[g]?) ∨ (e = .returned (.bool false) ∧ Jx o (pre ++ [x]) W')) →
    (∀ o W1, J o xs W1 → False) → J none [] W →
    CallsIn F n P g #[.func (.yield l) #[] #[]] W fun e W' => (∃ v, e = .returned v) ∧ ∃ o pre, Jx o pre W'

def keptO (B : Nat) (o : Option Nat) (k : Nat) : Prop := k = B ∨ k = B + 1 ∨ o = some k

def bodyPostO (B : Nat) (I : Option Nat → List Int → World → Prop) (Ix : Code → Option Nat → List Int → World → Prop) (o : Option Nat) (xs : List Int) (W : World) : Exit → Act → World → Prop
  | .normal, _, W' => KP (keptO B o) W W' ∧ I o xs W'
  | .ret, _, W' => KP (keptO B o) W W' ∧ Ix .ret o xs W'
  | .exit id, _, W' => KP (keptO B o) W W' ∧ Ix (.exit id) o xs W'
  | .goto t, _, W' => KP (keptO B o) W W' ∧ Ix (.goto t) o xs W'
  | .panic _, _, _ => False
  | .outgrown, _, _ => False

variable {F : Fence} {n : Nat} {P : Program}

theorem wpIn_rangeO {g : Operand} {ps : Array Tmp} {assign body : Code} {Q : Exit → Act → World → Prop} {a : Act} {w : World}
    (hro : F.round = none) (h1 : 1 ≤ n) {gf : Nat} (hg : a.eval g = .func (.func gf) #[] #[]) (hFg : F.fn gf) (eg : ∀ args w, (callFunc gf args).run P w = .ok (.enter gf args) w)
    {xs : List Int} (hseq : YieldsO F (n - 1) P gf xs) (hps : 1 = ps.size)
    (I : Option Nat → List Int → World → Prop) (Ix : Code → Option Nat → List Int → World → Prop) (hI : AbO I) (hIp : ∀ o s W ob, I o s W → I o s (W.putObj (w.heap.size + 1) ob)) (hIxp : ∀ c o s W ob, Ix c o s W → Ix c o s (W.putObj (w.heap.size + 1) ob)) (h0 : I none [] w) (a₁ : Int → Act)
    (hassign : ∀ (l : Nat) (x : Int) (W : World) (K : Act → World → Prop), K (a₁ x) W →
      assign.wpIn (F.inRound l) (n - 1 - 1) P (Exit.then K (fun _ _ _ => False)) { tmps := (ps.zip #[.int .i64 x]).foldl (fun t (p, v) => t.setIfInBounds p v) a.tmps, defers := [] } W)
    (hbody : ∀ (l : Nat) (o : Option Nat) (pre : List Int) (x : Int) (W : World), I o pre W → (∀ g, o = some g → w.heap.size + 2 ≤ g ∧ g < W.heap.size) → pre ++ [x] <+: xs → w.heap.size + 2 ≤ W.heap.size → body.wpIn (F.inRound l) (n - 1 - 1) P (bodyPostO w.heap.size I Ix o (pre ++ [x]) W) (a₁ x) W)
    (hend : ∀ o W, I o xs W → False)
    (hstop : ∀ (c : Code) (o : Option Nat) (pre : List Int) (W : World), Ix c o pre W → W.heap[w.heap.size]? = some (.deferred (some [])) → c.wpIn F n P Q { a with defers := { target := .collected w.heap.size, args := #[] } :: a.defers } W) :
    (Code.rangeFunc g ps assign body).wpIn F n P Q a w := by
  refine wpIn_rangeFunc ?_
  intro fn hfn
  rw [hro]
  obtain ⟨L, hL⟩ : ∃ L : LoopState → Option Code → Obj, L = fun st pe => .loop { state := st, pending := pe, fn, tmps := a.tmps, params := ps, assign, body, defers := w.heap.size } := ⟨_, rfl⟩
  obtain ⟨W1, hW1⟩ : ∃ W1, W1 = (w.alloc (.deferred (some []))).alloc (L .ready none) := ⟨_, rfl⟩
  have z1 : W1.heap.size = w.heap.size + 2 := by rw [hW1]; simp
  have dW : ∀ (X : World) (l : Nat) (o : Obj), X.heap[l]? = some o → l < X.heap.size := fun X l o h => (Array.getElem?_eq_some_iff.1 h).1
  have hR1 : W1.heap[w.heap.size + 1]? = some (L .ready none) := by
    rw [hW1]; have := World.alloc_heap_new (w.alloc (.deferred (some []))) (L .ready none); rwa [World.size_alloc] at this
  have hD1 : W1.heap[w.heap.size]? = some (.deferred (some [])) := by
    rw [hW1]; exact (Below.heap_alloc _ _ _ (by simp)).trans (World.alloc_heap_new w _)
  refine ⟨w.heap.size + 1, [{ target := .collected w.heap.size, args := #[] }], W1, { target := .fn (.func gf) #[], args := #[.func (.yield (w.heap.size + 1)) #[] #[]] }, W1, gf,
    #[.func (.yield (w.heap.size + 1)) #[] #[]], W1, ?_, ?_, ?_, ?_, fun _ => h1, ?_⟩
  · rw [hW1, hL]; exact run_enterLoop_outer _ _ _ _ _
  · simp only [resolve, hg]
    simp [go_sem]
  · intro f' hf'; simp [Target.leads] at hf'; subst hf'; exact hFg
  · simp [invoke, go_sem, eg]
  · refine (hseq (w.heap.size + 1)
      (fun o pre W => (∀ g, o = some g → w.heap.size + 2 ≤ g) ∧ I o pre W ∧ W.heap[w.heap.size + 1]? = some (L .ready none) ∧ W.heap[w.heap.size]? = some (.deferred (some [])))
      (fun o pre W => ∃ c, Ix c o pre W ∧ W.heap[w.heap.size + 1]? = some (L .done (some c)) ∧ W.heap[w.heap.size]? = some (.deferred (some [])))
      W1 ?_ ?_ (fun o W h => hend o W h.2.1) ⟨(by intro g e; cases e), ?_, hR1, hD1⟩).mono ?_
    · rintro o s A B o' ⟨ho, hs, hl, hk⟩ hg' ho'
      have hA := dW _ _ _ hl
      refine ⟨?_, hI o s A B o' hs hg' ho', ?_, ?_⟩
      · rintro g' e
        rcases ho' with h | ⟨g2, h, h2⟩
        · exact ho g' (h ▸ e)
        · rw [h] at e; cases e; omega
      · exact (hg'.block _ hA (fun e => by have := ho _ e.symm; omega)).trans hl
      · exact (hg'.block _ (dW _ _ _ hk) (fun e => by have := ho _ e.symm; omega)).trans hk
    · rintro o pre x W ⟨ho, hi, hl, hk⟩ hol hsz hpre
      have hlt := dW _ _ _ hl
      have hl' := hl
      rw [hL] at hl'
      have hy := run_yield (P := P) (args := #[.int .i64 x]) hl' hps
      refine ⟨fn, _, assign, body, hy, roundIn_of_wpIn hfn (hassign _ x W _ ⟨_, run_beginRound hl' rfl, ?_⟩)⟩
      obtain ⟨Wb, hWb⟩ : ∃ Wb, Wb = W.putObj (w.heap.size + 1) (L .busy none) := ⟨_, rfl⟩
      have hl2 : Wb.heap[w.heap.size + 1]? = some (L .busy none) := by rw [hWb]; exact World.putObj_heap_same hlt
      have hk2 : Wb.heap[w.heap.size]? = some (.deferred (some [])) := by rw [hWb]; exact (World.putObj_heap_other (by omega)).trans hk
      have hi2 : I o pre Wb := by rw [hWb]; exact hIp _ _ _ _ hi
      have zb : Wb.heap.size = W.heap.size := by rw [hWb]; simp
      have kb : ∀ g, o = some g → Wb.heap[g]? = W.heap[g]? := fun g e => by rw [hWb]; exact World.putObj_heap_other (by have := ho g e; omega)
      have fin : ∀ (jump : Option Code) (W3 : World), KP (keptO w.heap.size o) Wb W3 →
          (Instr.endRound (w.heap.size + 1) jump).run P W3 = .ok (.bool jump.isNone) (W3.putObj (w.heap.size + 1) (L (if jump.isNone then .ready else .done) jump)) ∧
          (W3.putObj (w.heap.size + 1) (L (if jump.isNone then .ready else .done) jump)).heap[w.heap.size + 1]? = some (L (if jump.isNone then .ready else .done) jump) ∧
          (W3.putObj (w.heap.size + 1) (L (if jump.isNone then .ready else .done) jump)).heap[w.heap.size]? = some (.deferred (some [])) ∧
          W.heap.size ≤ (W3.putObj (w.heap.size + 1) (L (if jump.isNone then .ready else .done) jump)).heap.size ∧
          (∀ g, o = some g → (W3.putObj (w.heap.size + 1) (L (if jump.isNone then .ready else .done) jump)).heap[g]? = W.heap[g]?) := fun jump W3 h3 => by
        have hl3 : W3.heap[w.heap.size + 1]? = some (L .busy none) := (h3.block _ (.inr (.inl rfl)) (by omega)).trans hl2
        have hk3 : W3.heap[w.heap.size]? = some (.deferred (some [])) := (h3.block _ (.inl rfl) (by omega)).trans hk2
        have hl4 := hl3
        rw [hL] at hl4
        have he := run_endRound (P := P) jump hl4
        refine ⟨by rw [hL]; exact he, World.putObj_heap_same (dW _ _ _ hl3), (World.putObj_heap_other (by omega)).trans hk3, ?_, ?_⟩
        · have := h3.size; simp; omega
        · intro g e
          have h5 := ho g e
          have h6 := (hol g e).2
          exact (World.putObj_heap_other (by omega)).trans ((h3.block g (.inr (.inr e)) (by omega)).trans (kb g e))
      have hb := hbody (w.heap.size + 1) o pre x Wb hi2 (fun g e => ⟨ho g e, by rw [zb]; exact (hol g e).2⟩) hpre (by omega)
      have hb2 : body.wpIn (F.inRound (w.heap.size + 1)) (n - 1 - 1) P (bodyPostO w.heap.size I Ix o (pre ++ [x]) Wb) (a₁ x) (W.putObj (w.heap.size + 1) (L .busy none)) := by rw [← hWb]; exact hb
      rw [hL] at hb2
      refine wpIn_mono hb2 ?_
      rintro e a3 W3 hp
      cases e with
      | normal =>
        obtain ⟨h3, hi3⟩ := hp
        obtain ⟨hr, hl4, hk4, kk⟩ := fin none W3 h3
        exact ⟨_, _, hr, .inl ⟨rfl, ⟨ho, hIp _ _ _ _ hi3, hl4, hk4⟩, kk⟩⟩
      | ret =>
        obtain ⟨h3, hi3⟩ := hp
        obtain ⟨hr, hl4, hk4, kk⟩ := fin (some .ret) W3 h3
        exact ⟨_, _, hr, .inr ⟨rfl, .ret, hIxp _ _ _ _ _ hi3, hl4, hk4⟩⟩
      | exit id =>
        obtain ⟨h3, hi3⟩ := hp
        obtain ⟨hr, hl4, hk4, kk⟩ := fin (some (.exit id)) W3 h3
        exact ⟨_, _, hr, .inr ⟨rfl, .exit id, hIxp _ _ _ _ _ hi3, hl4, hk4⟩⟩
      | goto t =>
        obtain ⟨h3, hi3⟩ := hp
        obtain ⟨hr, hl4, hk4, kk⟩ := fin (some (.goto t)) W3 h3
        exact ⟨_, _, hr, .inr ⟨rfl, .goto t, hIxp _ _ _ _ _ hi3, hl4, hk4⟩⟩
      | panic ch => exact hp.elim
      | outgrown => exact hp.elim
    · rw [hW1]; exact hI.alloc _ (hI.alloc _ h0)
    · rintro e W2 ⟨⟨v, rfl⟩, o, pre, c, hi, hl, hk⟩
      have hl' := hl
      rw [hL] at hl'
      exact ⟨some c, _, run_endLoop (P := P) hl' (by simp), hstop c o pre _ (hIxp _ _ _ _ _ hi) ((World.putObj_heap_other (by omega)).trans hk)⟩

/-- A variable in a block of its own. -/
structure Vr (b : Nat) (v : Value) (W : World) : Prop where
  c : W.cell? ⟨b, 0, none⟩ = some v
  f : W.frozen? ⟨b, 0, none⟩ = false
theorem Vr.lt {b : Nat} {v : Value} {W : World} (h : Vr b v W) : b < W.heap.size := by
  rcases Nat.lt_or_ge b W.heap.size with k | k
  · exact k
  · have h1 := h.c
    simp only [World.cell?, Array.getElem?_eq_none k] at h1; cases h1
theorem Vr.grown {b : Nat} {v : Value} {W W' : World} {row : Option Nat} (h : Vr b v W) (hg : W.grownBy W' row) (hr : row ≠ some b) : Vr b v W' :=
  ⟨hg.cell h.c (fun e => hr e.symm), by rw [World.frozen?_of_block (w := W) (a := ⟨b, 0, none⟩) (hg.block b h.lt (fun e => hr e.symm))]; exact h.f⟩
theorem Vr.set {b : Nat} {v : Value} {W : World} (h : Vr b v W) (u : Value) : Vr b u (W.setCell ⟨b, 0, none⟩ u) :=
  ⟨World.cell?_setCell_same' _ _ _ (by rw [h.c]; rfl), by rw [World.frozen?_setCell]; exact h.f⟩
theorem Vr.other {b b' : Nat} {v : Value} {W : World} (h : Vr b v W) (u : Value) (hne : b ≠ b') : Vr b v (W.setCell ⟨b', 0, none⟩ u) :=
  ⟨by rw [World.cell?_of_block (w := W) (a := ⟨b, 0, none⟩) (Below.heap_setCell W _ u b hne)]; exact h.c, by rw [World.frozen?_of_block (w := W) (a := ⟨b, 0, none⟩) (Below.heap_setCell W _ u b hne)]; exact h.f⟩
theorem Vr.put {b l : Nat} {v : Value} {W : World} (h : Vr b v W) (ob : Obj) (hl : b ≠ l) : Vr b v (W.putObj l ob) :=
  h.grown (grownBy_putObj' W l ob) (fun e => hl (by cases e; rfl))
theorem Vr.below {b : Nat} {v : Value} {W W' : World} (h : Vr b v W) (k : Below W.heap.size W W') : Vr b v W' :=
  ⟨(k.cell (p := ⟨b, 0, none⟩) h.lt).trans h.c, by rw [World.frozen?_of_block (w := W) (a := ⟨b, 0, none⟩) (k.block b h.lt)]; exact h.f⟩

/-- The iterator's block is none of those below B. -/
def ow (B : Nat) (o : Option Nat) (W : World) : Prop := B ≤ W.heap.size ∧ ∀ g, o = some g → B ≤ g
theorem ow.step {B : Nat} {o o' : Option Nat} {W W' : World} (h : ow B o W) (hg : W.grownBy W' o) (ho : o' = o ∨ ∃ g, o' = some g ∧ W.heap.size ≤ g) : ow B o' W' := by
  refine ⟨Nat.le_trans h.1 hg.size, ?_⟩
  intro g e
  rcases ho with h1 | ⟨g2, h1, h2⟩
  · exact h.2 g (h1 ▸ e)
  · rw [h1] at e; cases e; exact Nat.le_trans h.1 h2
theorem ow.ne {B b : Nat} {o : Option Nat} {W : World} (h : ow B o W) (hb : b < B) : o ≠ some b := fun e => by have := h.2 b e; omega
theorem ow.put {B l : Nat} {o : Option Nat} {W : World} (h : ow B o W) (ob : Obj) : ow B o (W.putObj l ob) := ⟨by simpa using h.1, h.2⟩
theorem ow.size {B : Nat} {o : Option Nat} {W W' : World} (h : ow B o W) (hs : W.heap.size ≤ W'.heap.size) : ow B o W' := ⟨Nat.le_trans h.1 hs, h.2⟩

theorem YieldsO.sub {F : Fence} {n : Nat} {P : Program} {g : Nat} {xs ys : List Int} (h : YieldsO F n P g xs) (hy : ys <+: xs) : YieldsO F n P g ys := by
  intro l J Jx W hJ hY hend h0
  refine h l (fun o pre W => J o pre W ∧ pre <+: ys) Jx W ?_ ?_ ?_ ⟨h0, List.nil_prefix⟩
  · intro o s A B o' hs hg ho; exact ⟨hJ o s A B o' hs.1 hg ho, hs.2⟩
  · intro o pre x W1 hs h1 h2 hpre
    have hne : pre ≠ ys := by rintro rfl; exact hend o W1 hs.1
    have hlt : pre.length < ys.length := by
      rcases Nat.lt_or_ge pre.length ys.length with k | k
      · exact k
      · exact absurd (hs.2.eq_of_length (Nat.le_antisymm hs.2.length_le k)) hne
    have hp : pre ++ [x] <+: ys := List.prefix_of_prefix_length_le hpre hy (by simp; omega)
    obtain ⟨fn, tmps, assign, body, hyl, hR⟩ := hY o pre x W1 hs.1 h1 h2 hp
    refine ⟨fn, tmps, assign, body, hyl, hR.mono ?_⟩
    rintro e W' (⟨e1, e2, e3⟩ | e1)
    · exact .inl ⟨e1, ⟨e2, hp⟩, e3⟩
    · exact .inr e1
  · intro o W1 hs
    have : xs = ys := (hs.2.eq_of_length (Nat.le_antisymm hs.2.length_le hy.length_le))
    subst this
    exact hend o W1 hs.1

theorem ownsRow_lower {w : World} {B B' e n : Nat} {v : Value} {xs : List Value} (h : w.ownsRow B e 1 v n xs) (hB : B' ≤ B) : w.ownsRow B' e 1 v n xs := by
  obtain ⟨h1, h2⟩ := h
  refine ⟨h1, ?_⟩
  rcases h2 with h3 | ⟨g, cap, cur, h3, h4, h5⟩
  · exact .inl h3
  · exact .inr ⟨g, cap, cur, h3, Nat.le_trans hB h4, h5⟩
theorem ownsRow_put {w : World} {B e n g c l : Nat} {xs : List Value} {o : Obj} (h : w.ownsRow B e 1 (.slice (some ⟨g, 0, none⟩) n c) n xs) (hl : g ≠ l) : (w.putObj l o).ownsRow B e 1 (.slice (some ⟨g, 0, none⟩) n c) n xs :=
  h.kept (grownBy_putObj' w l o) (.inr (by intro e; simp only [Value.ownBlock, Option.some.injEq] at e; exact hl e))

end Go.Proofs.YtcnfhndejkngkaaGreatDoor
end
