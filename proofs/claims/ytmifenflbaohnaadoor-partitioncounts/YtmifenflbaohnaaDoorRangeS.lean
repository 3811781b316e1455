/- A range over an iterator that keeps blocks of its own (a set of them, O, of a class A), reads what it has captured, and comes to an end of its own; the body may write into blocks of its own. -/
import Derived.Test.YtmifenflbaohnaaDoorRangeD
set_option linter.unusedSimpArgs false
set_option linter.unusedVariables false
set_option maxRecDepth 100000
namespace Go.Proofs.YtmifenflbaohnaaDoor
open Go.RowKit
section
variable {α : Type}

/-- The world has grown; of the old blocks those of O alone may have turned. -/
structure GrS (O : Nat → Prop) (W W' : World) : Prop where
  os : W'.os = W.os
  tape : W'.tape = W.tape
  output : W'.output = W.output
  size : W.heap.size ≤ W'.heap.size
  block : ∀ k, k < W.heap.size → ¬ O k → W'.heap[k]? = W.heap[k]?
theorem GrS.refl (O : Nat → Prop) (W : World) : GrS O W W := ⟨rfl, rfl, rfl, Nat.le_refl _, fun _ _ _ => rfl⟩
theorem GrS.trans {O O' : Nat → Prop} {a b c : World} (h : GrS O a b) (k : GrS O' b c) (hO : ∀ x, x < a.heap.size → O' x → O x) : GrS O a c :=
  ⟨k.os.trans h.os, k.tape.trans h.tape, k.output.trans h.output, Nat.le_trans h.size k.size, fun x h1 h2 => (k.block x (Nat.lt_of_lt_of_le h1 h.size) (fun e => h2 (hO x h1 e))).trans (h.block x h1 h2)⟩
theorem GrS.of {O : Nat → Prop} {a b : World} {row : Option Nat} (h : a.grownBy b row) (hO : ∀ g, row = some g → O g) : GrS O a b :=
  ⟨h.os, h.tape, h.output, h.size, fun x h1 h2 => h.block x h1 (fun e => h2 (hO x e.symm))⟩
theorem GrS.below {O : Nat → Prop} {a b : World} (h : Below a.heap.size a b) : GrS O a b := ⟨h.os, h.tape, h.output, h.size, fun x h1 _ => h.block x h1⟩
/-- What is said of the world hangs not on the iterator's blocks, and stays where the iterator takes new ones. -/
def AbS (A : (Nat → Prop) → Prop) (J : (Nat → Prop) → List α → World → Prop) : Prop :=
  ∀ O O' s W W', A O' → J O s W → GrS O W W' → (∀ b, O' b → O b ∨ W.heap.size ≤ b) → J O' s W'
def No : Nat → Prop := fun _ => False
theorem AbS.alloc {A : (Nat → Prop) → Prop} {J : (Nat → Prop) → List α → World → Prop} (h : AbS A J) {O : Nat → Prop} (hA : A O) {s : List α} {W : World} (ob : Obj) (hs : J O s W) : J O s (W.alloc ob) :=
  h O O s W _ hA hs (GrS.of (World.grownBy_alloc W ob none) (fun g e => by cases e)) (fun b h => .inl h)

/-- The iterator yields xs in their order, for as long as it is asked for more. Behind the last it returns. What it reads of the memory is C's. -/
def YieldsS (A : (Nat → Prop) → Prop) (F : Fence) (n : Nat) (P : Program) (g : Nat) (lb : Array Value) (encs : α → (Nat → Prop) → World → Array Value → Prop) (C : World → Prop) (xs : List α) : Prop :=
  ∀ (l : Nat) (J Jx : (Nat → Prop) → List α → World → Prop) (W : World), AbS A J → AbS A Jx → (∀ O s W1, J O s W1 → C W1) →
    (∀ O pre x W1 vs, A O → J O pre W1 → (∀ g, O g → W.heap.size ≤ g ∧ g < W1.heap.size) → W.heap.size ≤ W1.heap.size → pre ++ [x] <+: xs → encs x O W1 vs → YieldAt F (n - 1) P l vs W1 fun e W' =>
      ((e = .returned (.bool true) ∧ J O (pre ++ [x]) W') ∨ (e = .returned (.bool false) ∧ Jx O (pre ++ [x]) W')) ∧ W1.heap.size ≤ W'.heap.size ∧ ∀ g, O g → W'.heap[g]? = W1.heap[g]?) →
    J No [] W →
    CallsIn F n P g (#[.func (.yield l) #[] #[]] ++ lb) W fun e W' => (∃ v, e = .returned v) ∧ ((∃ O, A O ∧ J O xs W') ∨ ∃ O pre, Jx O pre W')

def keptS (B : Nat) (O : Nat → Prop) (k : Nat) : Prop := k = B ∨ k = B + 1 ∨ O k

def bodyPostS (B : Nat) (I : (Nat → Prop) → List α → World → Prop) (Ix : Code → (Nat → Prop) → List α → World → Prop) (O : Nat → Prop) (xs : List α) (W : World) : Exit → Act → World → Prop
  | .normal, _, W' => KP (keptS B O) W W' ∧ I O xs W'
  | .ret, _, W' => KP (keptS B O) W W' ∧ Ix .ret O xs W'
  | .exit id, _, W' => KP (keptS B O) W W' ∧ Ix (.exit id) O xs W'
  | .goto t, _, W' => KP (keptS B O) W W' ∧ Ix (.goto t) O xs W'
  | .panic _, _, _ => False
  | .outgrown, _, _ => False

variable {F : Fence} {n : Nat} {P : Program}

theorem wpIn_rangeS {A : (Nat → Prop) → Prop} (hA0 : A No) {g : Operand} {ps : Array Tmp} {assign body : Code} {Q : Exit → Act → World → Prop} {a : Act} {w : World}
    (hro : F.round = none) (h1 : 1 ≤ n) {gf : Nat} {lb : Array Value} (hg : a.eval g = .func (.func gf) #[] lb) (hFg : F.fn gf) (eg : ∀ args w, (callFunc gf args).run P w = .ok (.enter gf args) w)
    {encs : α → (Nat → Prop) → World → Array Value → Prop} {C : World → Prop} {xs : List α} (hseq : YieldsS A F (n - 1) P gf lb encs C xs) (hps : ∀ x O W vs, encs x O W vs → vs.size = ps.size)
    (I : (Nat → Prop) → List α → World → Prop) (Ix : Code → (Nat → Prop) → List α → World → Prop) (hI : AbS A I) (hIx : ∀ c, AbS A (Ix c)) (hIp : ∀ O s W ob, I O s W → I O s (W.putObj (w.heap.size + 1) ob)) (hIxp : ∀ c O s W ob, Ix c O s W → Ix c O s (W.putObj (w.heap.size + 1) ob)) (hC : ∀ O s W, I O s W → C W)
    (hEp : ∀ x O W vs ob s, I O s W → encs x O W vs → (∀ arr t fr, W.heap[w.heap.size + 1]? ≠ some (.cells arr t fr)) → encs x O (W.putObj (w.heap.size + 1) ob) vs) (h0 : I No [] w) (a₁ : Array Value → Act)
    (hassign : ∀ (l : Nat) (x : α) (O : Nat → Prop) (vs : Array Value) (W : World) (K : Act → World → Prop), encs x O W vs → K (a₁ vs) W →
      assign.wpIn (F.inRound l) (n - 1 - 1) P (Exit.then K (fun _ _ _ => False)) { tmps := (ps.zip vs).foldl (fun t (p, v) => t.setIfInBounds p v) a.tmps, defers := [] } W)
    (hbody : ∀ (l : Nat) (O : Nat → Prop) (pre : List α) (x : α) (vs : Array Value) (W : World), A O → I O pre W → (∀ g, O g → w.heap.size + 2 ≤ g ∧ g < W.heap.size) → pre ++ [x] <+: xs → w.heap.size + 2 ≤ W.heap.size → encs x O W vs → (∀ arr t fr, W.heap[w.heap.size + 1]? ≠ some (.cells arr t fr)) → body.wpIn (F.inRound l) (n - 1 - 1) P (bodyPostS w.heap.size I Ix O (pre ++ [x]) W) (a₁ vs) W)
    (hdone : ∀ (O : Nat → Prop) (W : World), A O → I O xs W → W.heap[w.heap.size]? = some (.deferred (some [])) → Q .normal { a with defers := { target := .collected w.heap.size, args := #[] } :: a.defers } W)
    (hstop : ∀ (c : Code) (O : Nat → Prop) (pre : List α) (W : World), Ix c O pre W → W.heap[w.heap.size]? = some (.deferred (some [])) → c.wpIn F n P Q { a with defers := { target := .collected w.heap.size, args := #[] } :: a.defers } W) :
    (Code.rangeFunc g ps assign body).wpIn F n P Q a w := by
  refine wpIn_rangeFunc ?_
  intro fn hfn
  rw [hro]
  obtain ⟨L, hL⟩ : ∃ L : LoopState → Option Code → Obj, L = fun st pe => .loop { state := st, pending := pe, fn, tmps := a.tmps, params := ps, assign, body, defers := w.heap.size } := ⟨_, rfl⟩
  obtain ⟨W1, hW1⟩ : ∃ W1, W1 = (w.alloc (.deferred (some []))).alloc (L .ready none) := ⟨_, rfl⟩
  have z1 : W1.heap.size = w.heap.size + 2 := by rw [hW1]; simp
  have dW : ∀ (X : World) (l : Nat) (o : Obj), X.heap[l]? = some o → l < X.heap.size := fun X l o h => (Array.getElem?_eq_some_iff.1 h).1
  have hR1 : W1.heap[w.heap.size + 1]? = some (L .ready none) := by
    rw [hW1]; have := World.alloc_heap_new (w.alloc (.deferred (some []))) (L .ready none); rwa [World.size_alloc] at this
  have hD1 : W1.heap[w.heap.size]? = some (.deferred (some [])) := by
    rw [hW1]; exact (Below.heap_alloc _ _ _ (by simp)).trans (World.alloc_heap_new w _)
  refine ⟨w.heap.size + 1, [{ target := .collected w.heap.size, args := #[] }], W1, { target := .fn (.func gf) lb, args := #[.func (.yield (w.heap.size + 1)) #[] #[]] }, W1, gf,
    #[.func (.yield (w.heap.size + 1)) #[] #[]] ++ lb, W1, ?_, ?_, ?_, ?_, fun _ => h1, ?_⟩
  · rw [hW1, hL]; exact run_enterLoop_outer _ _ _ _ _
  · simp only [resolve, hg]
    simp [go_sem]
  · intro f' hf'; simp [Target.leads] at hf'; subst hf'; exact hFg
  · simp [invoke, go_sem, eg]
  · refine (hseq (w.heap.size + 1)
      (fun O pre W => (∀ g, O g → w.heap.size + 2 ≤ g) ∧ I O pre W ∧ W.heap[w.heap.size + 1]? = some (L .ready none) ∧ W.heap[w.heap.size]? = some (.deferred (some [])))
      (fun O pre W => ∃ c, (∀ g, O g → w.heap.size + 2 ≤ g) ∧ Ix c O pre W ∧ W.heap[w.heap.size + 1]? = some (L .done (some c)) ∧ W.heap[w.heap.size]? = some (.deferred (some [])))
      W1 ?_ ?_ (fun O s W h => hC O s W h.2.1) ?_ ⟨(by intro g e; cases e), ?_, hR1, hD1⟩).mono ?_
    · rintro O O' s X Y hA' ⟨ho, hs, hl, hk⟩ hg' ho'
      have hX := dW _ _ _ hl
      refine ⟨?_, hI O O' s X Y hA' hs hg' ho', ?_, ?_⟩
      · intro g' e
        rcases ho' g' e with h | h
        · exact ho g' h
        · omega
      · exact (hg'.block _ hX (fun e => by have := ho _ e; omega)).trans hl
      · exact (hg'.block _ (dW _ _ _ hk) (fun e => by have := ho _ e; omega)).trans hk
    · rintro O O' s X Y hA' ⟨c, ho, hs, hl, hk⟩ hg' ho'
      have hX := dW _ _ _ hl
      refine ⟨c, ?_, hIx c O O' s X Y hA' hs hg' ho', ?_, ?_⟩
      · intro g' e
        rcases ho' g' e with h | h
        · exact ho g' h
        · omega
      · exact (hg'.block _ hX (fun e => by have := ho _ e; omega)).trans hl
      · exact (hg'.block _ (dW _ _ _ hk) (fun e => by have := ho _ e; omega)).trans hk
    · rintro O pre x W vs hAO ⟨ho, hi, hl, hk⟩ hol hsz hpre hvs
      have hlt := dW _ _ _ hl
      have hl' := hl
      rw [hL] at hl'
      have hy := run_yield (P := P) (args := vs) hl' (hps x O W vs hvs)
      refine ⟨fn, _, assign, body, hy, roundIn_of_wpIn hfn (hassign _ x O vs W _ hvs ⟨_, run_beginRound hl' rfl, ?_⟩)⟩
      obtain ⟨Wb, hWb⟩ : ∃ Wb, Wb = W.putObj (w.heap.size + 1) (L .busy none) := ⟨_, rfl⟩
      have hl2 : Wb.heap[w.heap.size + 1]? = some (L .busy none) := by rw [hWb]; exact World.putObj_heap_same hlt
      have hk2 : Wb.heap[w.heap.size]? = some (.deferred (some [])) := by rw [hWb]; exact (World.putObj_heap_other (by omega)).trans hk
      have hi2 : I O pre Wb := by rw [hWb]; exact hIp _ _ _ _ hi
      have hvs2 : encs x O Wb vs := by rw [hWb]; exact hEp _ _ _ _ _ _ hi hvs (fun arr t fr => by rw [hl, hL]; intro h; cases h)
      have zb : Wb.heap.size = W.heap.size := by rw [hWb]; simp
      have kb : ∀ g, O g → Wb.heap[g]? = W.heap[g]? := fun g e => by rw [hWb]; exact World.putObj_heap_other (by have := ho g e; omega)
      have fin : ∀ (jump : Option Code) (W3 : World), KP (keptS w.heap.size O) Wb W3 →
          (Instr.endRound (w.heap.size + 1) jump).run P W3 = .ok (.bool jump.isNone) (W3.putObj (w.heap.size + 1) (L (if jump.isNone then .ready else .done) jump)) ∧
          (W3.putObj (w.heap.size + 1) (L (if jump.isNone then .ready else .done) jump)).heap[w.heap.size + 1]? = some (L (if jump.isNone then .ready else .done) jump) ∧
          (W3.putObj (w.heap.size + 1) (L (if jump.isNone then .ready else .done) jump)).heap[w.heap.size]? = some (.deferred (some [])) ∧
          W.heap.size ≤ (W3.putObj (w.heap.size + 1) (L (if jump.isNone then .ready else .done) jump)).heap.size ∧
          (∀ g, O g → (W3.putObj (w.heap.size + 1) (L (if jump.isNone then .ready else .done) jump)).heap[g]? = W.heap[g]?) := fun jump W3 h3 => by
        have hl3 : W3.heap[w.heap.size + 1]? = some (L .busy none) := (h3.block _ (.inr (.inl rfl)) (by omega)).trans hl2
        have hk3 : W3.heap[w.heap.size]? = some (.deferred (some [])) := (h3.block _ (.inl rfl) (by omega)).trans hk2
        have hl4 := hl3
        rw [hL] at hl4
        have he := run_endRound (P := P) jump hl4
        refine ⟨by rw [hL]; exact he, World.putObj_heap_same (dW _ _ _ hl3), (World.putObj_heap_other (by omega)).trans hk3, ?_, ?_⟩
        · have := h3.size; simp; omega
        · intro g e
          have h5 := ho g e
          have h6 := (hol g e).2
          exact (World.putObj_heap_other (by omega)).trans ((h3.block g (.inr (.inr e)) (by omega)).trans (kb g e))
      have hb := hbody (w.heap.size + 1) O pre x vs Wb hAO hi2 (fun g e => ⟨ho g e, by rw [zb]; exact (hol g e).2⟩) hpre (by omega) hvs2 (fun arr t fr => by rw [hl2, hL]; intro h; cases h)
      have hb2 : body.wpIn (F.inRound (w.heap.size + 1)) (n - 1 - 1) P (bodyPostS w.heap.size I Ix O (pre ++ [x]) Wb) (a₁ vs) (W.putObj (w.heap.size + 1) (L .busy none)) := by rw [← hWb]; exact hb
      rw [hL] at hb2
      refine wpIn_mono hb2 ?_
      rintro e a3 W3 hp
      cases e with
      | normal =>
        obtain ⟨h3, hi3⟩ := hp
        obtain ⟨hr, hl4, hk4, kk1, kk2⟩ := fin none W3 h3
        exact ⟨_, _, hr, .inl ⟨rfl, ho, hIp _ _ _ _ hi3, hl4, hk4⟩, kk1, kk2⟩
      | ret =>
        obtain ⟨h3, hi3⟩ := hp
        obtain ⟨hr, hl4, hk4, kk1, kk2⟩ := fin (some .ret) W3 h3
        exact ⟨_, _, hr, .inr ⟨rfl, .ret, ho, hIxp _ _ _ _ _ hi3, hl4, hk4⟩, kk1, kk2⟩
      | exit id =>
        obtain ⟨h3, hi3⟩ := hp
        obtain ⟨hr, hl4, hk4, kk1, kk2⟩ := fin (some (.exit id)) W3 h3
        exact ⟨_, _, hr, .inr ⟨rfl, .exit id, ho, hIxp _ _ _ _ _ hi3, hl4, hk4⟩, kk1, kk2⟩
      | goto t =>
        obtain ⟨h3, hi3⟩ := hp
        obtain ⟨hr, hl4, hk4, kk1, kk2⟩ := fin (some (.goto t)) W3 h3
        exact ⟨_, _, hr, .inr ⟨rfl, .goto t, ho, hIxp _ _ _ _ _ hi3, hl4, hk4⟩, kk1, kk2⟩
      | panic ch => exact hp.elim
      | outgrown => exact hp.elim
    · rw [hW1]; exact hI.alloc hA0 _ (hI.alloc hA0 _ h0)
    · rintro e W2 ⟨⟨v, rfl⟩, ⟨O, hAO, _, hi, hl, hk⟩ | ⟨O, pre, c, _, hi, hl, hk⟩⟩
      · have hl' := hl
        rw [hL] at hl'
        exact ⟨none, _, run_endLoop (P := P) hl' (by simp), hdone O _ hAO (hIp _ _ _ _ hi) ((World.putObj_heap_other (by omega)).trans hk)⟩
      · have hl' := hl
        rw [hL] at hl'
        exact ⟨some c, _, run_endLoop (P := P) hl' (by simp), hstop c O pre _ (hIxp _ _ _ _ _ hi) ((World.putObj_heap_other (by omega)).trans hk)⟩

end
end Go.Proofs.YtmifenflbaohnaaDoor
