import Derived.Test.YtcnfhndejkngkaaGreatDoorJpB
import Derived.RangeFuncNested
import Derived.RangeFuncBound
import Derived.RangeFuncCalls
import Derived.RangeFuncLeaves
import Derived.Shelf.Abstract
import Derived.Shelf.RegionOpen
import Derived.OwnWalkIn
import Derived.TacticsInMore
import Derived.LoopNIn
import Derived.LoopIn
import Derived.Maps.OwnIn
import Derived.Test.YtcnfhndejkngkaaGreatDoorJpJ
import Derived.Test.YtcnfhndejkngkaaGreatDoorBigN
import Derived.Deep.LoopGhost
section
set_option linter.unusedSimpArgs false
set_option linter.unusedVariables false
set_option maxRecDepth 100000
namespace Go.Proofs.YtcnfhndejkngkaaGreatDoor
open Go.RowKit
structure KP (S : Nat → Prop) (W W' : World) : Prop where
  size : W.heap.size ≤ W'.heap.size
  block : ∀ k, S k → k < W.heap.size → W'.heap[k]? = W.heap[k]?
theorem KP.refl (S : Nat → Prop) (W : World) : KP S W W := ⟨Nat.le_refl _, fun _ _ _ => rfl⟩
theorem KP.trans {S : Nat → Prop} {x y z : World} (h : KP S x y) (k : KP S y z) : KP S x z :=
  ⟨Nat.le_trans h.size k.size, fun i h1 h2 => (k.block i h1 (Nat.lt_of_lt_of_le h2 h.size)).trans (h.block i h1 h2)⟩
theorem KP.setCell {S : Nat → Prop} {x y : World} (h : KP S x y) {p : Addr} (hp : ¬ S p.block) (u : Value) : KP S x (y.setCell p u) :=
  h.trans ⟨by simp [World.setCell], fun k h1 h2 => Below.heap_setCell _ _ _ _ (fun e => hp (by rw [← e]; exact h1))⟩
theorem KP.alloc {S : Nat → Prop} {x y : World} (h : KP S x y) (o : Obj) : KP S x (y.alloc o) :=
  h.trans ⟨by simp, fun k h1 h2 => Below.heap_alloc _ _ _ h2⟩
theorem KP.below {S : Nat → Prop} {x y z : World} (h : KP S x y) (k : Below y.heap.size y z) : KP S x z := h.trans ⟨k.size, fun i _ h2 => k.block i h2⟩
theorem KP.grown {S : Nat → Prop} {x y z : World} {row : Option Nat} (h : KP S x y) (hg : y.grownBy z row) (hr : ∀ r, row = some r → ¬ S r) : KP S x z :=
  h.trans ⟨hg.size, fun k h1 h2 => hg.block k h2 (fun e => hr k e.symm h1)⟩
theorem grownBy_more {W W' : World} (h : W.grownBy W' none) (o : Option Nat) : W.grownBy W' o :=
  ⟨h.os, h.tape, h.output, h.size, fun k hk _ => h.block k hk (by simp)⟩
def AbO (J : Option Nat → List Int → World → Prop) : Prop :=
  ∀ o s W W' o', J o s W → W.grownBy W' o → (o' = o ∨ ∃ g, o' = some g ∧ W.heap.size ≤ g) → J o' s W'
theorem AbO.alloc {J : Option Nat → List Int → World → Prop} (h : AbO J) {o : Option Nat} {s : List Int} {W : World} (ob : Obj) (hs : J o s W) : J o s (W.alloc ob) :=
  h o s W _ o hs (grownBy_more (World.grownBy_alloc W ob none) o) (.inl rfl)
def YieldsO (F : Fence) (n : Nat) (P : Program) (g : Nat) (xs : List Int) : Prop :=
  ∀ (l : Nat) (J Jx : Option Nat → List Int → World → Prop) (W : World), AbO J →
    (∀ o pre x W1, J o pre W1 → (∀ g, o = some g → W.heap.size ≤ g ∧ g < W1.heap.size) → W.heap.size ≤ W1.heap.size → pre ++ [x] <+: xs → YieldAt F (n - 1) P l #[.int .i64 x] W1 fun e W' =>
      (e = .returned (.bool true) ∧ J o (pre ++ [x]) W' ∧ W1.heap.size ≤ W'.heap.size ∧ ∀ g, o = some g → W'.heap[g]? = W1.heap[g]?) ∨ (e = .returned (.bool false) ∧ Jx o (pre ++ [x]) W')) →
    (∀ o W1, J o xs W1 → False) → J none [] W →
    CallsIn F n P g #[.func (.yield l) #[] #[]] W fun e W' => (∃ v, e = .returned v) ∧ ∃ o pre, Jx o pre W'
def keptO (B : Nat) (o : Option Nat) (k : Nat) : Prop := k = B ∨ k = B + 1 ∨ o = some k
def bodyPostO (B : Nat) (I : Option Nat → List Int → World → Prop) (Ix : Code → Option Nat → List Int → World → Prop) (o : Option Nat) (xs : List Int) (W : World) : Exit → Act → World → Prop
  | .normal, _, W' => KP (keptO B o) W W' ∧ I o xs W'
  | .ret, _, W' => KP (keptO B o) W W' ∧ Ix .ret o xs W'
  | .exit id, _, W' => KP (keptO B o) W W' ∧ Ix (.exit id) o xs W'
  | .goto t, _, W' => KP (keptO B o) W W' ∧ Ix (.goto t) o xs W'
  | .panic _, _, _ => False
  | .outgrown, _, _ => False
variable {F : Fence} {n : Nat} {P : Program}
theorem wpIn_rangeO {g : Operand} {ps : Array Tmp} {assign body : Code} {Q : Exit → Act → World → Prop} {a : Act} {w : World}
    (hro : F.round = none) (h1 : 1 ≤ n) {gf : Nat} (hg : a.eval g = .func (.func gf) #[] #[]) (hFg : F.fn gf) (eg : ∀ args w, (callFunc gf args).run P w = .ok (.enter gf args) w)
    {xs : List Int} (hseq : YieldsO F (n - 1) P gf xs) (hps : 1 = ps.size)
    (I : Option Nat → List Int → World → Prop) (Ix : Code → Option Nat → List Int → World → Prop) (hI : AbO I) (hIp : ∀ o s W ob, I o s W → I o s (W.putObj (w.heap.size + 1) ob)) (hIxp : ∀ c o s W ob, Ix c o s W → Ix c o s (W.putObj (w.heap.size + 1) ob)) (h0 : I none [] w) (a₁ : Int → Act)
    (hassign : ∀ (l : Nat) (x : Int) (W : World) (K : Act → World → Prop), K (a₁ x) W →
      assign.wpIn (F.inRound l) (n - 1 - 1) P (Exit.then K (fun _ _ _ => False)) { tmps := (ps.zip #[.int .i64 x]).foldl (fun t (p, v) => t.setIfInBounds p v) a.tmps, defers := [] } W)
    (hbody : ∀ (l : Nat) (o : Option Nat) (pre : List Int) (x : Int) (W : World), I o pre W → (∀ g, o = some g → w.heap.size + 2 ≤ g ∧ g < W.heap.size) → pre ++ [x] <+: xs → w.heap.size + 2 ≤ W.heap.size → body.wpIn (F.inRound l) (n - 1 - 1) P (bodyPostO w.heap.size I Ix o (pre ++ [x]) W) (a₁ x) W)
    (hend : ∀ o W, I o xs W → False)
    (hstop : ∀ (c : Code) (o : Option Nat) (pre : List Int) (W : World), Ix c o pre W → W.heap[w.heap.size]? = some (.deferred (some [])) → c.wpIn F n P Q { a with defers := { target := .collected w.heap.size, args := #[] } :: a.defers } W) :
    (Code.rangeFunc g ps assign body).wpIn F n P Q a w := by
  refine wpIn_rangeFunc ?_
  intro fn hfn
  rw [hro]
  obtain ⟨L, hL⟩ : ∃ L : LoopState → Option Code → Obj, L = fun st pe => .loop { state := st, pending := pe, fn, tmps := a.tmps, params := ps, assign, body, defers := w.heap.size } := ⟨_, rfl⟩
  obtain ⟨W1, hW1⟩ : ∃ W1, W1 = (w.alloc (.deferred (some []))).alloc (L .ready none) := ⟨_, rfl⟩
  have z1 : W1.heap.size = w.heap.size + 2 := by rw [hW1]; simp
  have dW : ∀ (X : World) (l : Nat) (o : Obj), X.heap[l]? = some o → l < X.heap.size := fun X l o h => (Array.getElem?_eq_some_iff.1 h).1
  have hR1 : W1.heap[w.heap.size + 1]? = some (L .ready none) := by
    rw [hW1]; have := World.alloc_heap_new (w.alloc (.deferred (some []))) (L .ready none); rwa [World.size_alloc] at this
  have hD1 : W1.heap[w.heap.size]? = some (.deferred (some [])) := by
    rw [hW1]; exact (Below.heap_alloc _ _ _ (by simp)).trans (World.alloc_heap_new w _)
  refine ⟨w.heap.size + 1, [{ target := .collected w.heap.size, args := #[] }], W1, { target := .fn (.func gf) #[], args := #[.func (.yield (w.heap.size + 1)) #[] #[]] }, W1, gf,
    #[.func (.yield (w.heap.size + 1)) #[] #[]], W1, ?_, ?_, ?_, ?_, fun _ => h1, ?_⟩
  · rw [hW1, hL]; exact run_enterLoop_outer _ _ _ _ _
  · simp only [resolve, hg]
    simp [go_sem]
  · intro f' hf'; simp [Target.leads] at hf'; subst hf'; exact hFg
  · simp [invoke, go_sem, eg]
  · refine (hseq (w.heap.size + 1)
      (fun o pre W => (∀ g, o = some g → w.heap.size + 2 ≤ g) ∧ I o pre W ∧ W.heap[w.heap.size + 1]? = some (L .ready none) ∧ W.heap[w.heap.size]? = some (.deferred (some [])))
      (fun o pre W => ∃ c, Ix c o pre W ∧ W.heap[w.heap.size + 1]? = some (L .done (some c)) ∧ W.heap[w.heap.size]? = some (.deferred (some [])))
      W1 ?_ ?_ (fun o W h => hend o W h.2.1) ⟨(by intro g e; cases e), ?_, hR1, hD1⟩).mono ?_
    · rintro o s A B o' ⟨ho, hs, hl, hk⟩ hg' ho'
      have hA := dW _ _ _ hl
      refine ⟨?_, hI o s A B o' hs hg' ho', ?_, ?_⟩
      · rintro g' e
        rcases ho' with h | ⟨g2, h, h2⟩
        · exact ho g' (h ▸ e)
        · rw [h] at e; cases e; omega
      · exact (hg'.block _ hA (fun e => by have := ho _ e.symm; omega)).trans hl
      · exact (hg'.block _ (dW _ _ _ hk) (fun e => by have := ho _ e.symm; omega)).trans hk
    · rintro o pre x W ⟨ho, hi, hl, hk⟩ hol hsz hpre
      have hlt := dW _ _ _ hl
      have hl' := hl
      rw [hL] at hl'
      have hy := run_yield (P := P) (args := #[.int .i64 x]) hl' hps
      refine ⟨fn, _, assign, body, hy, roundIn_of_wpIn hfn (hassign _ x W _ ⟨_, run_beginRound hl' rfl, ?_⟩)⟩
      obtain ⟨Wb, hWb⟩ : ∃ Wb, Wb = W.putObj (w.heap.size + 1) (L .busy none) := ⟨_, rfl⟩
      have hl2 : Wb.heap[w.heap.size + 1]? = some (L .busy none) := by rw [hWb]; exact World.putObj_heap_same hlt
      have hk2 : Wb.heap[w.heap.size]? = some (.deferred (some [])) := by rw [hWb]; exact (World.putObj_heap_other (by omega)).trans hk
      have hi2 : I o pre Wb := by rw [hWb]; exact hIp _ _ _ _ hi
      have zb : Wb.heap.size = W.heap.size := by rw [hWb]; simp
      have kb : ∀ g, o = some g → Wb.heap[g]? = W.heap[g]? := fun g e => by rw [hWb]; exact World.putObj_heap_other (by have := ho g e; omega)
      have fin : ∀ (jump : Option Code) (W3 : World), KP (keptO w.heap.size o) Wb W3 →
          (Instr.endRound (w.heap.size + 1) jump).run P W3 = .ok (.bool jump.isNone) (W3.putObj (w.heap.size + 1) (L (if jump.isNone then .ready else .done) jump)) ∧
          (W3.putObj (w.heap.size + 1) (L (if jump.isNone then .ready else .done) jump)).heap[w.heap.size + 1]? = some (L (if jump.isNone then .ready else .done) jump) ∧
          (W3.putObj (w.heap.size + 1) (L (if jump.isNone then .ready else .done) jump)).heap[w.heap.size]? = some (.deferred (some [])) ∧
          W.heap.size ≤ (W3.putObj (w.heap.size + 1) (L (if jump.isNone then .ready else .done) jump)).heap.size ∧
          (∀ g, o = some g → (W3.putObj (w.heap.size + 1) (L (if jump.isNone then .ready else .done) jump)).heap[g]? = W.heap[g]?) := fun jump W3 h3 => by
        have hl3 : W3.heap[w.heap.size + 1]? = some (L .busy none) := (h3.block _ (.inr (.inl rfl)) (by omega)).trans hl2
        have hk3 : W3.heap[w.heap.size]? = some (.deferred (some [])) := (h3.block _ (.inl rfl) (by omega)).trans hk2
        have hl4 := hl3
        rw [hL] at hl4
        have he := run_endRound (P := P) jump hl4
        refine ⟨by rw [hL]; exact he, World.putObj_heap_same (dW _ _ _ hl3), (World.putObj_heap_other (by omega)).trans hk3, ?_, ?_⟩
        · have := h3.size; simp; omega
        · intro g e
          have h5 := ho g e
          have h6 := (hol g e).2
          exact (World.putObj_heap_other (by omega)).trans ((h3.block g (.inr (.inr e)) (by omega)).trans (kb g e))
      have hb := hbody (w.heap.size + 1) o pre x Wb hi2 (fun g e => ⟨ho g e, by rw [zb]; exact (hol g e).2⟩) hpre (by omega)
      have hb2 : body.wpIn (F.inRound (w.heap.size + 1)) (n - 1 - 1) P (bodyPostO w.heap.size I Ix o (pre ++ [x]) Wb) (a₁ x) (W.putObj (w.heap.size + 1) (L .busy none)) := by rw [← hWb]; exact hb
      rw [hL] at hb2
      refine wpIn_mono hb2 ?_
      rintro e a3 W3 hp
      cases e with
      | normal =>
        obtain ⟨h3, hi3⟩ := hp
        obtain ⟨hr, hl4, hk4, kk⟩ := fin none W3 h3
        exact ⟨_, _, hr, .inl ⟨rfl, ⟨ho, hIp _ _ _ _ hi3, hl4, hk4⟩, kk⟩⟩
      | ret =>
        obtain ⟨h3, hi3⟩ := hp
        obtain ⟨hr, hl4, hk4, kk⟩ := fin (some .ret) W3 h3
        exact ⟨_, _, hr, .inr ⟨rfl, .ret, hIxp _ _ _ _ _ hi3, hl4, hk4⟩⟩
      | exit id =>
        obtain ⟨h3, hi3⟩ := hp
        obtain ⟨hr, hl4, hk4, kk⟩ := fin (some (.exit id)) W3 h3
        exact ⟨_, _, hr, .inr ⟨rfl, .exit id, hIxp _ _ _ _ _ hi3, hl4, hk4⟩⟩
      | goto t =>
        obtain ⟨h3, hi3⟩ := hp
        obtain ⟨hr, hl4, hk4, kk⟩ := fin (some (.goto t)) W3 h3
        exact ⟨_, _, hr, .inr ⟨rfl, .goto t, hIxp _ _ _ _ _ hi3, hl4, hk4⟩⟩
      | panic ch => exact hp.elim
      | outgrown => exact hp.elim
    · rw [hW1]; exact hI.alloc _ (hI.alloc _ h0)
    · rintro e W2 ⟨⟨v, rfl⟩, o, pre, c, hi, hl, hk⟩
      have hl' := hl
      rw [hL] at hl'
      exact ⟨some c, _, run_endLoop (P := P) hl' (by simp), hstop c o pre _ (hIxp _ _ _ _ _ hi) ((World.putObj_heap_other (by omega)).trans hk)⟩
structure Vr (b : Nat) (v : Value) (W : World) : Prop where
  c : W.cell? ⟨b, 0, none⟩ = some v
  f : W.frozen? ⟨b, 0, none⟩ = false
theorem Vr.lt {b : Nat} {v : Value} {W : World} (h : Vr b v W) : b < W.heap.size := by
  rcases Nat.lt_or_ge b W.heap.size with k | k
  · exact k
  · have h1 := h.c
    simp only [World.cell?, Array.getElem?_eq_none k] at h1; cases h1
theorem Vr.grown {b : Nat} {v : Value} {W W' : World} {row : Option Nat} (h : Vr b v W) (hg : W.grownBy W' row) (hr : row ≠ some b) : Vr b v W' :=
  ⟨hg.cell h.c (fun e => hr e.symm), by rw [World.frozen?_of_block (w := W) (a := ⟨b, 0, none⟩) (hg.block b h.lt (fun e => hr e.symm))]; exact h.f⟩
theorem Vr.set {b : Nat} {v : Value} {W : World} (h : Vr b v W) (u : Value) : Vr b u (W.setCell ⟨b, 0, none⟩ u) :=
  ⟨World.cell?_setCell_same' _ _ _ (by rw [h.c]; rfl), by rw [World.frozen?_setCell]; exact h.f⟩
theorem Vr.other {b b' : Nat} {v : Value} {W : World} (h : Vr b v W) (u : Value) (hne : b ≠ b') : Vr b v (W.setCell ⟨b', 0, none⟩ u) :=
  ⟨by rw [World.cell?_of_block (w := W) (a := ⟨b, 0, none⟩) (Below.heap_setCell W _ u b hne)]; exact h.c, by rw [World.frozen?_of_block (w := W) (a := ⟨b, 0, none⟩) (Below.heap_setCell W _ u b hne)]; exact h.f⟩
theorem Vr.put {b l : Nat} {v : Value} {W : World} (h : Vr b v W) (ob : Obj) (hl : b ≠ l) : Vr b v (W.putObj l ob) :=
  h.grown (grownBy_putObj' W l ob) (fun e => hl (by cases e; rfl))
theorem Vr.below {b : Nat} {v : Value} {W W' : World} (h : Vr b v W) (k : Below W.heap.size W W') : Vr b v W' :=
  ⟨(k.cell (p := ⟨b, 0, none⟩) h.lt).trans h.c, by rw [World.frozen?_of_block (w := W) (a := ⟨b, 0, none⟩) (k.block b h.lt)]; exact h.f⟩
def ow (B : Nat) (o : Option Nat) (W : World) : Prop := B ≤ W.heap.size ∧ ∀ g, o = some g → B ≤ g
theorem ow.step {B : Nat} {o o' : Option Nat} {W W' : World} (h : ow B o W) (hg : W.grownBy W' o) (ho : o' = o ∨ ∃ g, o' = some g ∧ W.heap.size ≤ g) : ow B o' W' := by
  refine ⟨Nat.le_trans h.1 hg.size, ?_⟩
  intro g e
  rcases ho with h1 | ⟨g2, h1, h2⟩
  · exact h.2 g (h1 ▸ e)
  · rw [h1] at e; cases e; exact Nat.le_trans h.1 h2
theorem ow.ne {B b : Nat} {o : Option Nat} {W : World} (h : ow B o W) (hb : b < B) : o ≠ some b := fun e => by have := h.2 b e; omega
theorem ow.put {B l : Nat} {o : Option Nat} {W : World} (h : ow B o W) (ob : Obj) : ow B o (W.putObj l ob) := ⟨by simpa using h.1, h.2⟩
theorem ow.size {B : Nat} {o : Option Nat} {W W' : World} (h : ow B o W) (hs : W.heap.size ≤ W'.heap.size) : ow B o W' := ⟨Nat.le_trans h.1 hs, h.2⟩
theorem ownsRow_lower {w : World} {B B' e n : Nat} {v : Value} {xs : List Value} (h : w.ownsRow B e 1 v n xs) (hB : B' ≤ B) : w.ownsRow B' e 1 v n xs := by
  obtain ⟨h1, h2⟩ := h
  refine ⟨h1, ?_⟩
  rcases h2 with h3 | ⟨g, cap, cur, h3, h4, h5⟩
  · exact .inl h3
  · exact .inr ⟨g, cap, cur, h3, Nat.le_trans hB h4, h5⟩
theorem ownsRow_put {w : World} {B e n g c l : Nat} {xs : List Value} {o : Obj} (h : w.ownsRow B e 1 (.slice (some ⟨g, 0, none⟩) n c) n xs) (hl : g ≠ l) : (w.putObj l o).ownsRow B e 1 (.slice (some ⟨g, 0, none⟩) n c) n xs :=
  h.kept (grownBy_putObj' w l o) (.inr (by intro e; simp only [Value.ownBlock, Option.some.injEq] at e; exact hl e))
end Go.Proofs.YtcnfhndejkngkaaGreatDoor
end

section
set_option linter.unusedSimpArgs false
set_option linter.unusedVariables false
set_option maxRecDepth 100000
namespace Go.Proofs.YtcnfhndejkngkaaGreatDoor
open Go.RowKit
def Cl (b : Nat) (l : List Value) (t : TypeId) (w : World) : Prop := w.heap[b]? = some (.cells l.toArray t (0, 0))
theorem Cl.lt {b : Nat} {l : List Value} {t : TypeId} {w : World} (h : Cl b l t w) : b < w.heap.size := (Array.getElem?_eq_some_iff.1 h).1
theorem Cl.cell {b : Nat} {l : List Value} {t : TypeId} {w : World} (h : Cl b l t w) (i : Nat) : w.cell? ⟨b, i, none⟩ = l[i]? := by
  unfold Cl at h
  simp [World.cell?, h]
theorem Cl.frozen {b : Nat} {l : List Value} {t : TypeId} {w : World} (h : Cl b l t w) (i : Nat) : w.frozen? ⟨b, i, none⟩ = false := by
  unfold Cl at h
  simp [World.frozen?, h]
theorem Cl.below {b : Nat} {l : List Value} {t : TypeId} {w w' : World} (h : Cl b l t w) (k : Below w.heap.size w w') : Cl b l t w' := (k.block b h.lt).trans h
theorem Cl.new (l : List Value) (t : TypeId) (w : World) : Cl w.heap.size l t (w.alloc (.cells l.toArray t)) := World.alloc_heap_new w _
theorem Cl.alloc {b : Nat} {l : List Value} {t : TypeId} {w : World} (h : Cl b l t w) (o : Obj) : Cl b l t (w.alloc o) := h.below (Below.alloc (Below.refl _ _) (Nat.le_refl _) _)
theorem Cl.drew {b : Nat} {l : List Value} {t : TypeId} {w : World} (h : Cl b l t w) : Cl b l t w.drew := h
theorem Cl.set {b : Nat} {l : List Value} {t : TypeId} {w : World} (h : Cl b l t w) (i : Nat) (v : Value) : Cl b (l.set i v) t (w.setCell ⟨b, i, none⟩ v) := by
  have := heap_setCell_same w b i l.toArray t v h
  unfold Cl
  rw [this]
  simp
theorem Cl.other {b : Nat} {l : List Value} {t : TypeId} {w : World} (h : Cl b l t w) {p : Addr} (hp : b ≠ p.block) (v : Value) : Cl b l t (w.setCell p v) :=
  (Below.heap_setCell w p v b hp).trans h
theorem Cl.grown {b : Nat} {l : List Value} {t : TypeId} {w w' : World} {row : Option Nat} (h : Cl b l t w) (hg : w.grownBy w' row) (hr : row ≠ some b) : Cl b l t w' :=
  (hg.block b h.lt (fun e => hr e.symm)).trans h
end Go.Proofs.YtcnfhndejkngkaaGreatDoor
end

section
set_option linter.unusedSimpArgs false
set_option linter.unusedVariables false
set_option maxRecDepth 100000
namespace Go.Proofs.YtcnfhndejkngkaaGreatDoor
open Go.RowKit
structure IntAt (w : World) (b o : Nat) (n : Int) : Prop where
  lt : b < w.heap.size
  ex : ∃ s, w.cell? ⟨b, o, none⟩ = some (.bool (decide (n < 0))) ∧ w.cell? ⟨b, o + 1, none⟩ = some s ∧ NS w s n.natAbs
theorem IntAt.open {w : World} {b o : Nat} {n : Int} (h : IntAt w b o n) : ∃ aa len cap, w.cell? ⟨b, o, none⟩ = some (.bool (decide (n < 0))) ∧ w.cell? ⟨b, o + 1, none⟩ = some (.slice aa len cap) ∧ NS w (.slice aa len cap) n.natAbs ∧ (0 < len ↔ 0 < n.natAbs) := by
  obtain ⟨s, h0, h1, h2⟩ := h.ex
  obtain ⟨aa, len, cap, rfl, hl⟩ := h2.shape
  exact ⟨aa, len, cap, h0, h1, h2, hl⟩
theorem BigAt.at {w : World} {b : Nat} {n : Int} (h : BigAt w b n) : IntAt w b 0 n := by
  obtain ⟨aa, len, cap, c0, c1, ns, _⟩ := h.open
  exact ⟨h.lt, _, c0, c1, ns⟩
theorem IntAt.below {B : Nat} {w w' : World} {b o : Nat} {n : Int} (h : IntAt w b o n) (hb : Below B w w') (hB : w.heap.size ≤ B) : IntAt w' b o n := by
  obtain ⟨s, h0, h1, h2⟩ := h.ex
  exact ⟨Nat.lt_of_lt_of_le h.lt hb.size, s, ((hb.mono hB).cell h.lt).trans h0, ((hb.mono hB).cell h.lt).trans h1, h2.below hb hB⟩
end Go.Proofs.YtcnfhndejkngkaaGreatDoor
end

section
set_option linter.unusedSimpArgs false
set_option linter.unusedVariables false
set_option maxRecDepth 100000
namespace Go.Proofs.YtcnfhndejkngkaaGreatDoor
open Go.RowKit
set_option maxHeartbeats 1000000 in
theorem Uint64_at (o bx : Nat) (x : Int) (w : World) (hx : IntAt w bx o x) (h : x.natAbs < 18446744073709551616) :
    Calls Tryz.prog 69 #[.pointer (some ⟨bx, o, none⟩)] w fun e w' => e = .returned (.int .u64 (x.natAbs : Int)) ∧ ∃ q, w' = w.drewN q := by
  have hbx := hx.lt
  obtain ⟨xa, xl, xc, cx0, cx1, nx, _⟩ := hx.open
  obtain ⟨l, aa, g, cap, e, va, na, sa, pa, cell, _, lt⟩ := nx.open
  simp at e
  obtain ⟨rfl, rfl, rfl⟩ := e
  have h2 : l.length ≤ 2 := na.len (by rw [va, pw_two]; exact h)
  obtain ⟨X, gX⟩ : ∃ X, X = x.natAbs := ⟨_, rfl⟩
  rw [← gX] at va h ⊢
  clear hx nx lt na gX cx0
  rcases short_list l h2 with rfl | ⟨a, rfl⟩ | ⟨a, b, rfl⟩
  · have hv : X = 0 := by simpa [val] using va.symm
    subst hv
    clear va h cell sa pa h2
    go_enter Tryz.func69, Tryz.ntmps69
    go_wp2
    go_ret
    exact ⟨rfl, 0, rfl⟩
  · have hv : X = a := by simpa [val] using va.symm
    subst hv
    have c0 := cell 0 (by simp)
    simp at c0
    obtain rfl := pa (by simp)
    have s0 := sa X (by simp)
    clear va h cell sa pa h2
    go_enter Tryz.func69, Tryz.ntmps69
    go_wp2
    go_ret
    exact ⟨rfl, 0, rfl⟩
  · have hv : X = a + 4294967296 * b := by simpa [val] using va.symm
    have c0 := cell 0 (by simp)
    have c1 := cell 1 (by simp)
    simp at c0 c1
    obtain rfl := pa (by simp)
    have s0 := sa a (by simp)
    have s1 := sa b (by simp)
    have eo := or_low a b s0 s1
    rw [← hv] at eo
    clear va h hv cell sa pa h2
    go_enter Tryz.func69, Tryz.ntmps69
    go_wp2
    first
      | (go_ret; exact ⟨rfl, 0, rfl⟩)
      | (go_quiet (fail)
         go_wp2
         go_ret
         exact ⟨rfl, _, rfl⟩)
set_option maxHeartbeats 1000000 in
theorem Int64_at (o bx : Nat) (x : Int) (w : World) (hx : IntAt w bx o x) (h : x.natAbs < 9223372036854775808) :
    Calls Tryz.prog 43 #[.pointer (some ⟨bx, o, none⟩)] w fun e w' => e = .returned (.int .i64 x) ∧ ∃ q, w' = w.drewN q := by
  have hbx := hx.lt
  obtain ⟨xa, xl, xc, cx0, cx1, nx, _⟩ := hx.open
  have HX : Hid (IntAt w bx o x) := hx
  clear hx nx cx1
  by_cases hneg : x < 0
  · rw [decide_eq_true hneg] at cx0
    go_enter Tryz.func43, Tryz.ntmps43
    go_wp2_with fail
    refine (Uint64_at o bx x w HX.out (by omega)).mono ?_
    rintro e w1 ⟨rfl, q, rfl⟩
    go_wp2
    go_ret
    exact ⟨ret_int (by omega), q, rfl⟩
  · rw [decide_eq_false hneg] at cx0
    go_enter Tryz.func43, Tryz.ntmps43
    go_wp2_with fail
    refine (Uint64_at o bx x w HX.out (by omega)).mono ?_
    rintro e w1 ⟨rfl, q, rfl⟩
    go_wp2
    go_ret
    exact ⟨ret_int (by omega), q, rfl⟩
end Go.Proofs.YtcnfhndejkngkaaGreatDoor
end

section
set_option linter.unusedSimpArgs false
set_option linter.unusedVariables false
set_option maxRecDepth 100000
namespace Go.Proofs.YtcnfhndejkngkaaGreatDoor
open Go.RowKit
def phc (n : Nat) : Nat → Nat
  | 0 => 0
  | i + 1 => phc n i + (if Nat.gcd (i + 1) n = 1 then 1 else 0)
theorem phc_le (n : Nat) : ∀ i, phc n i ≤ i
  | 0 => Nat.le_refl _
  | i + 1 => by
    have := phc_le n i
    unfold phc
    split <;> omega
set_option maxHeartbeats 4000000 in
theorem PhiOf_any (n : Nat) (w : World) (hn : n ≤ 1000000) :
    Calls Tryz.prog 14 #[.int .i64 (n : Int)] w fun e w' => e = .returned (.int .i64 ((phc n n : Nat) : Int)) ∧ w' = w := by
  go_enter Tryz.func14, Tryz.ntmps14
  go_wp2
  go_loopg [3, 4] n (fun gk cv iv wx => ∃ c i : Nat, cv = .int .i64 (c : Int) ∧ iv = .int .i64 ((i + 1 : Nat) : Int) ∧ Hid (gk = n - i ∧ i ≤ n ∧ c = phc n i ∧ wx = w))
  case atStart => exact ⟨0, 0, rfl, rfl, rfl, by omega, rfl, rfl⟩
  case round =>
    obtain ⟨c, i, rfl, rfl, HR⟩ := hrel
    obtain ⟨h1, h2, h3, hw⟩ := HR.out
    have hw2 := hw.symm
    clear hw
    subst hw2
    have HK : Hid (gk = n - i) := h1
    have HC : Hid (c = phc n i) := h3
    have hc : c ≤ i := by rw [h3]; exact phc_le n i
    clear HR h1 h3
    by_cases hi : i < n
    · have ti : decide (((i + 1 : Nat) : Int) ≤ (n : Int)) = true := decide_eq_true (by omega)
      obtain ⟨I, hI⟩ : ∃ I, I = i + 1 := ⟨_, rfl⟩
      have HIe : Hid (I = i + 1) := hI
      have hI2 : I ≤ 1000000 := by omega
      have HG : Hid (Calls Tryz.prog 39 #[.int .i64 (I : Int), .int .i64 (n : Int)] w fun e w' => e = .returned (.int .i64 ((Nat.gcd I n : Nat) : Int)) ∧ w' = w) := refGcd_nat I n w (by omega) (by omega) (I : Int) (n : Int) rfl rfl
      rw [← hI] at ti ⊢
      have tiN : I ≤ n := by omega
      clear hI
      obtain ⟨G, hG⟩ : ∃ G, G = Nat.gcd I n := ⟨_, rfl⟩
      rw [← hG] at HG
      go_wp2_with fail
      refine HG.out.mono ?_
      rintro e w' ⟨rfl, hw⟩
      have hw2 := hw.symm
      subst hw2
      by_cases h1 : G = 1
      · have t1 : ((G : Int) == 1) = true := by rw [h1]; rfl
        have HP : Hid (c + 1 = phc n I) := by
          show _ = _
          rw [HIe.out]
          unfold phc
          rw [← HIe.out, if_pos (by rw [← hG]; exact h1), HC.out]
        clear h1 hG
        go_wp2
        go_roundg (n - I)
        case rel => exact ⟨c + 1, I, by go_num, by go_num, rfl, by have := HIe.out; omega, HP.out, rfl⟩
        case measure => have := HK.out; have := HIe.out; omega
      · have t1 : ((G : Int) == 1) = false := by rw [beq_eq_false_iff_ne]; omega
        have HP : Hid (c = phc n I) := by
          show _ = _
          rw [HIe.out]
          unfold phc
          rw [← HIe.out, if_neg (by rw [← hG]; exact h1), HC.out]
          rfl
        clear h1 hG
        go_wp2
        go_roundg (n - I)
        case rel => exact ⟨c, I, rfl, by go_num, rfl, by have := HIe.out; omega, HP.out, rfl⟩
        case measure => have := HK.out; have := HIe.out; omega
    · have ti : decide (((i + 1 : Nat) : Int) ≤ (n : Int)) = false := decide_eq_false (by omega)
      have tiN : ¬ i + 1 ≤ n := by omega
      obtain rfl : i = n := by omega
      go_wp2
      go_ret
      exact ⟨by rw [HC.out]; rfl, rfl⟩
end Go.Proofs.YtcnfhndejkngkaaGreatDoor
end

section
set_option linter.unusedSimpArgs false
set_option linter.unusedVariables false
set_option maxRecDepth 100000
namespace Go.Proofs.YtcnfhndejkngkaaGreatDoor
namespace FR
theorem next_least {a b p q c d n : Int} (hb : 0 < b) (hq : 0 < q) (hd : d ≤ n) (h1 : p * b - a * q = 1) (h2 : n < q + b) (h3 : a * d < c * b) : p * d ≤ c * q := by
  rcases Int.lt_or_le (c * q) (p * d) with h | h
  · have e1 : b * (c * q + 1) ≤ b * (p * d) := Int.mul_le_mul_of_nonneg_left (by omega) (by omega)
    have e2 : q * (a * d + 1) ≤ q * (c * b) := Int.mul_le_mul_of_nonneg_left (by omega) (by omega)
    have e3 : d = b * (p * d) - q * (a * d) := by
      have : d * (p * b - a * q) = d := by rw [h1, Int.mul_one]
      grind
    have e4 : b * (c * q + 1) = b * (c * q) + b := by grind
    have e5 : q * (a * d + 1) = q * (a * d) + q := by grind
    have e6 : q * (c * b) = b * (c * q) := by grind
    omega
  · exact h
theorem next_up {a b p q : Int} (hb : 0 < b) (h1 : p * b - a * q = 1) : a * q / b + 1 = p := by
  have e : a * q = b * (p - 1) + (b - 1) := by grind
  rw [e, Int.mul_add_ediv_left _ _ (by omega), Int.ediv_eq_zero_of_lt (by omega) (by omega)]
  omega
theorem up_above {a b d : Int} (hb : 0 < b) : a * d < (a * d / b + 1) * b := by
  have h1 := Int.mul_ediv_add_emod (a * d) b
  have h2 := Int.emod_lt_of_pos (a * d) hb
  have e : (a * d / b + 1) * b = b * (a * d / b) + b := by grind
  omega
def rowf (n : Nat) : Nat → Nat → Nat → Nat → Nat → List (Nat × Nat)
  | 0, _, _, _, _ => []
  | f + 1, a, b, c, d => if c ≤ n then (c, d) :: rowf n f c d ((n + b) / d * c - a) ((n + b) / d * d - b) else []
def row (n : Nat) : List (Nat × Nat) := (0, 1) :: rowf n 1000 0 1 1 n
def many : Nat → Nat
  | 0 => 1
  | n + 1 => many n + phc (n + 1) (n + 1)
def nbs : List (Nat × Nat) → Bool
  | x :: y :: l => (y.1 * x.2 == x.1 * y.2 + 1) && nbs (y :: l)
  | _ => true
def rowOk (n : Nat) : Bool := (row n).length == many n && (row n).getLast? == some (1, 1) && nbs (row n) && (row n).all fun x => decide (1 ≤ x.2) && decide (x.2 ≤ n) && decide (x.1 ≤ n)
theorem row_ok : ∀ n, 1 ≤ n → n ≤ 50 → rowOk n = true := by
  have h : ((List.range 50).all fun i => rowOk (i + 1)) = true := by decide +kernel
  intro n h1 h2
  rw [List.all_eq_true] at h
  have := h (n - 1) (by rw [List.mem_range]; omega)
  rw [show n - 1 + 1 = n by omega] at this
  exact this
end FR
end Go.Proofs.YtcnfhndejkngkaaGreatDoor
end

section
set_option linter.unusedSimpArgs false
set_option linter.unusedVariables false
set_option maxRecDepth 100000
namespace Go.Proofs.YtcnfhndejkngkaaGreatDoor
namespace FR
structure Best (a b : Int) (m : Nat) (P Q : Int) : Prop where
  pos : 0 < Q
  ab : a * Q < P * b
  le : ∀ d : Int, 1 ≤ d → d ≤ m → P * d ≤ (a * d / b + 1) * Q
  qm : Q ≤ m
theorem mul_le {x y z : Int} (hz : 0 < z) (h : z * x ≤ z * y) : x ≤ y := Int.le_of_mul_le_mul_left h hz
theorem best_one {a b : Int} (hb : 0 < b) : Best a b 1 (a / b + 1) 1 :=
  ⟨by omega, by have := up_above (a := a) (d := 1) hb; rw [Int.mul_one] at this ⊢; exact this, fun d h1 h2 => by
    obtain rfl : d = 1 := by omega
    rw [Int.mul_one, Int.mul_one, Int.mul_one]; exact Int.le_refl _, by omega⟩
theorem best_keep {a b P Q : Int} {m : Nat} (h : Best a b m P Q) (hk : P * ((m + 1 : Nat) : Int) ≤ (a * ((m + 1 : Nat) : Int) / b + 1) * Q) : Best a b (m + 1) P Q :=
  ⟨h.pos, h.ab, fun d h1 h2 => by
    by_cases e : d = ((m + 1 : Nat) : Int)
    · subst e; exact hk
    · exact h.le d h1 (by omega), by have := h.qm; omega⟩
theorem best_new {a b P Q P' Q' : Int} {m : Nat} (hb : 0 < b) (h : Best a b m P Q) (hQ' : 0 < Q') (hq : Q' ≤ ((m + 1 : Nat) : Int)) (hv : P' * ((m + 1 : Nat) : Int) = (a * ((m + 1 : Nat) : Int) / b + 1) * Q') (hl : P' * Q < P * Q') : Best a b (m + 1) P' Q' := by
  refine ⟨hQ', ?_, fun d h1 h2 => ?_, hq⟩
  · have h3 := up_above (a := a) (d := ((m + 1 : Nat) : Int)) hb
    generalize ((m + 1 : Nat) : Int) = M at *
    generalize a * M / b + 1 = t at *
    have hM : 0 < M := by omega
    have e1 : Q' * (a * M) < Q' * (t * b) := Int.mul_lt_mul_of_pos_left h3 hQ'
    have e2 : M * (a * Q') < M * (P' * b) := by
      have : M * (P' * b) = Q' * (t * b) := by grind
      rw [this]
      have : M * (a * Q') = Q' * (a * M) := by grind
      rw [this]
      exact e1
    exact Int.lt_of_mul_lt_mul_left e2 (by omega)
  · by_cases e : d = ((m + 1 : Nat) : Int)
    · subst e; exact Int.le_of_eq hv
    · have h3 := h.le d h1 (by omega)
      have hp := h.pos
      generalize a * d / b + 1 = t at *
      have e1 : d * (P' * Q) ≤ d * (P * Q') := Int.mul_le_mul_of_nonneg_left (by omega) (by omega)
      have e2 : Q' * (P * d) ≤ Q' * (t * Q) := Int.mul_le_mul_of_nonneg_left h3 (by omega)
      refine mul_le hp ?_
      have e3 : Q * (P' * d) = d * (P' * Q) := by grind
      have e4 : Q * (t * Q') = Q' * (t * Q) := by grind
      have e5 : d * (P * Q') = Q' * (P * d) := by grind
      omega
theorem best_end {a b P Q p q : Int} {n : Nat} (hb : 0 < b) (h : Best a b n P Q) (h1 : p * b - a * q = 1) (hq : 1 ≤ q) (hqn : q ≤ n) (h2 : (n : Int) < q + b) : P * q = p * Q := by
  have e1 := next_least hb (show 0 < q by omega) h.qm h1 h2 h.ab
  have e2 := h.le q hq hqn
  rw [next_up hb h1] at e2
  omega
end FR
end Go.Proofs.YtcnfhndejkngkaaGreatDoor
end
