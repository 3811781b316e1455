import Derived.Test.YtknmfohipdjlpabGreatDoorCertD
import Derived.RangeFuncNested
import Derived.RangeFuncBound
import Derived.RangeFuncCalls
import Derived.RangeFuncLeaves
import Derived.Shelf.Abstract
import Derived.Shelf.RegionOpen
import Derived.OwnWalkIn
import Derived.TacticsInMore
import Derived.LoopNIn
import Derived.LoopIn
import Derived.Maps.AppendAt
import Derived.WalkSmall
import Derived.Scope
import Derived.Test.YtknmfohipdjlpabGreatDoorBitsA
import Derived.Test.YtknmfohipdjlpabGreatDoorWholeL
section
/- A range over an iterator that keeps a list of its own in memory, and that ends only where the body leaves it. -/
set_option linter.unusedSimpArgs false
set_option linter.unusedVariables false
set_option maxRecDepth 100000
namespace Go.Proofs.YtknmfohipdjlpabGreatDoor
open Go.RowKit

/-- All blocks from B on that were there are as they were. -/
structure KB (B : Nat) (W W' : World) : Prop where
  size : W.heap.size ≤ W'.heap.size
  block : ∀ k, B ≤ k → k < W.heap.size → W'.heap[k]? = W.heap[k]?
theorem KB.refl (B : Nat) (W : World) : KB B W W := ⟨Nat.le_refl _, fun _ _ _ => rfl⟩
theorem KB.trans {B : Nat} {x y z : World} (h : KB B x y) (k : KB B y z) : KB B x z :=
  ⟨Nat.le_trans h.size k.size, fun i h1 h2 => (k.block i h1 (Nat.lt_of_lt_of_le h2 h.size)).trans (h.block i h1 h2)⟩
theorem KB.mono {B B' : Nat} {x y : World} (h : KB B x y) (hB : B ≤ B') : KB B' x y := ⟨h.size, fun k h1 h2 => h.block k (Nat.le_trans hB h1) h2⟩
theorem KB.setCell {B : Nat} {x y : World} (h : KB B x y) {p : Addr} (hp : p.block < B) (u : Value) : KB B x (y.setCell p u) :=
  h.trans ⟨by simp [World.setCell], fun k h1 h2 => Below.heap_setCell _ _ _ _ (by omega)⟩
theorem KB.alloc {B : Nat} {x y : World} (h : KB B x y) (o : Obj) : KB B x (y.alloc o) :=
  h.trans ⟨by simp, fun k h1 h2 => Below.heap_alloc _ _ _ h2⟩
theorem KB.below {B : Nat} {x y z : World} (h : KB B x y) (k : Below y.heap.size y z) : KB B x z := h.trans ⟨k.size, fun i _ h2 => k.block i h2⟩
theorem KB.put {B : Nat} (W : World) (l : Nat) (o : Obj) (hl : l < B) : KB B W (W.putObj l o) :=
  ⟨by simp, fun k h1 h2 => World.putObj_heap_other (by omega)⟩

/-- What is said of the world hangs on none of the blocks of R. -/
def AbR (R : Nat → Prop) (J : List Int → World → Prop) : Prop :=
  ∀ s W W' row, J s W → W.grownBy W' row → (∀ r, row = some r → R r) → J s W'
theorem AbR.alloc {R : Nat → Prop} {J : List Int → World → Prop} (h : AbR R J) {s : List Int} {W : World} (o : Obj) (hs : J s W) : J s (W.alloc o) :=
  h s W _ none hs (World.grownBy_alloc W o none) (fun r e => by cases e)
theorem AbR.put {R : Nat → Prop} {J : List Int → World → Prop} (h : AbR R J) {s : List Int} {W : World} {l : Nat} (o : Obj) (hs : J s W) (hl : R l) : J s (W.putObj l o) :=
  h s W _ (some l) hs (grownBy_putObj' W l o) (fun r e => by cases e; exact hl)

/-- The iterator yields the numbers xs in their order, for as long as it is asked for more; the body leaves it at the last one at the latest. R: the blocks, of those from the heap's end on, into which it writes. -/
def Yields (F : Fence) (n : Nat) (P : Program) (g : Nat) (R : Nat → Nat → Prop) (xs : List Int) : Prop :=
  ∀ (l : Nat) (J Jx : List Int → World → Prop) (W : World), AbR (R W.heap.size) J → AbR (R W.heap.size) Jx →
    (∀ pre x W1, J pre W1 → pre ++ [x] <+: xs → YieldAt F (n - 1) P l #[.int .i64 x] W1 fun e W' =>
      (e = .returned (.bool true) ∧ J (pre ++ [x]) W' ∧ KB W.heap.size W1 W') ∨ (e = .returned (.bool false) ∧ Jx (pre ++ [x]) W')) →
    (∀ W1, J xs W1 → False) → J [] W →
    CallsIn F n P g #[.func (.yield l) #[] #[]] W fun e W' => (∃ v, e = .returned v) ∧ ∃ pre, Jx pre W'

def bodyPostC (B : Nat) (I : List Int → World → Prop) (Ix : Code → List Int → World → Prop) (xs : List Int) (W : World) : Exit → Act → World → Prop
  | .normal, _, W' => KB B W W' ∧ I xs W'
  | .ret, _, W' => KB B W W' ∧ Ix .ret xs W'
  | .exit id, _, W' => KB B W W' ∧ Ix (.exit id) xs W'
  | .goto t, _, W' => KB B W W' ∧ Ix (.goto t) xs W'
  | .panic _, _, _ => False
  | .outgrown, _, _ => False

variable {F : Fence} {n : Nat} {P : Program}

theorem wpIn_rangeC {g : Operand} {ps : Array Tmp} {assign body : Code} {Q : Exit → Act → World → Prop} {a : Act} {w : World}
    (hro : F.round = none) (h1 : 1 ≤ n) {gf : Nat} (hg : a.eval g = .func (.func gf) #[] #[]) (hFg : F.fn gf) (eg : ∀ args w, (callFunc gf args).run P w = .ok (.enter gf args) w)
    {R : Nat → Nat → Prop} (hR : ∀ B r, R B r → B ≤ r) {xs : List Int} (hseq : Yields F (n - 1) P gf R xs) (hps : 1 = ps.size)
    (I : List Int → World → Prop) (Ix : Code → List Int → World → Prop) (hI : AbR (fun r => r = w.heap.size + 1 ∨ R (w.heap.size + 2) r) I) (hIx : ∀ c, AbR (fun r => r = w.heap.size + 1 ∨ R (w.heap.size + 2) r) (Ix c)) (h0 : I [] w) (a₁ : Int → Act)
    (hassign : ∀ (l : Nat) (x : Int) (W : World) (K : Act → World → Prop), K (a₁ x) W →
      assign.wpIn (F.inRound l) (n - 1 - 1) P (Exit.then K (fun _ _ _ => False)) { tmps := (ps.zip #[.int .i64 x]).foldl (fun t (p, v) => t.setIfInBounds p v) a.tmps, defers := [] } W)
    (hbody : ∀ (l : Nat) (pre : List Int) (x : Int) (W : World), I pre W → pre ++ [x] <+: xs → w.heap.size + 2 ≤ W.heap.size → body.wpIn (F.inRound l) (n - 1 - 1) P (bodyPostC w.heap.size I Ix (pre ++ [x]) W) (a₁ x) W)
    (hend : ∀ W, I xs W → False)
    (hstop : ∀ (c : Code) (pre : List Int) (W : World), Ix c pre W → W.heap[w.heap.size]? = some (.deferred (some [])) → c.wpIn F n P Q { a with defers := { target := .collected w.heap.size, args := #[] } :: a.defers } W) :
    (Code.rangeFunc g ps assign body).wpIn F n P Q a w := by
  refine wpIn_rangeFunc ?_
  intro fn hfn
  rw [hro]
  -- the loop's record, in its two states
  obtain ⟨L, hL⟩ : ∃ L : LoopState → Option Code → Obj, L = fun st pe => .loop { state := st, pending := pe, fn, tmps := a.tmps, params := ps, assign, body, defers := w.heap.size } := ⟨_, rfl⟩
  obtain ⟨W1, hW1⟩ : ∃ W1, W1 = (w.alloc (.deferred (some []))).alloc (L .ready none) := ⟨_, rfl⟩
  have z1 : W1.heap.size = w.heap.size + 2 := by rw [hW1]; simp
  have dW : ∀ (X : World) (l : Nat) (o : Obj), X.heap[l]? = some o → l < X.heap.size := fun X l o h => (Array.getElem?_eq_some_iff.1 h).1
  have hR1 : W1.heap[w.heap.size + 1]? = some (L .ready none) := by
    rw [hW1]; have := World.alloc_heap_new (w.alloc (.deferred (some []))) (L .ready none); rwa [World.size_alloc] at this
  have hD1 : W1.heap[w.heap.size]? = some (.deferred (some [])) := by
    rw [hW1]; exact (Below.heap_alloc _ _ _ (by simp)).trans (World.alloc_heap_new w _)
  refine ⟨w.heap.size + 1, [{ target := .collected w.heap.size, args := #[] }], W1, { target := .fn (.func gf) #[], args := #[.func (.yield (w.heap.size + 1)) #[] #[]] }, W1, gf,
    #[.func (.yield (w.heap.size + 1)) #[] #[]], W1, ?_, ?_, ?_, ?_, fun _ => h1, ?_⟩
  · rw [hW1, hL]; exact run_enterLoop_outer _ _ _ _ _
  · simp only [resolve, hg]
    simp [go_sem]
  · intro f' hf'; simp [Target.leads] at hf'; subst hf'; exact hFg
  · simp [invoke, go_sem, eg]
  · have keep : ∀ {A B : World} {row : Option Nat} {k : Nat} {o : Obj}, A.grownBy B row → (∀ r, row = some r → W1.heap.size ≤ r) → k < W1.heap.size → A.heap[k]? = some o → B.heap[k]? = some o :=
      fun {A B row k o} hg' hr hk ho => (hg'.block k (dW _ _ _ ho) (fun e => by have := hr k e.symm; omega)).trans ho
    refine (hseq (w.heap.size + 1)
      (fun pre W => I pre W ∧ W.heap[w.heap.size + 1]? = some (L .ready none) ∧ W.heap[w.heap.size]? = some (.deferred (some [])))
      (fun pre W => ∃ c, Ix c pre W ∧ W.heap[w.heap.size + 1]? = some (L .done (some c)) ∧ W.heap[w.heap.size]? = some (.deferred (some [])))
      W1 ?_ ?_ ?_ (fun W h => hend W h.1) ⟨?_, hR1, hD1⟩).mono ?_
    · intro s A B row hs hg' hr
      have hr' : ∀ r, row = some r → W1.heap.size ≤ r := fun r e => hR _ r (hr r e)
      exact ⟨hI s A B row hs.1 hg' (fun r e => .inr (by have := hr r e; rwa [z1] at this)), keep hg' hr' (by omega) hs.2.1, keep hg' hr' (by omega) hs.2.2⟩
    · rintro s A B row ⟨c, hc, hl, hk⟩ hg' hr
      have hr' : ∀ r, row = some r → W1.heap.size ≤ r := fun r e => hR _ r (hr r e)
      exact ⟨c, hIx c s A B row hc hg' (fun r e => .inr (by have := hr r e; rwa [z1] at this)), keep hg' hr' (by omega) hl, keep hg' hr' (by omega) hk⟩
    · -- one round
      rintro pre x W ⟨hi, hl, hk⟩ hpre
      have hlt := dW _ _ _ hl
      have hl' := hl
      rw [hL] at hl'
      have hy := run_yield (P := P) (args := #[.int .i64 x]) hl' hps
      refine ⟨fn, _, assign, body, hy, roundIn_of_wpIn hfn (hassign _ x W _ ⟨_, run_beginRound hl' rfl, ?_⟩)⟩
      obtain ⟨Wb, hWb⟩ : ∃ Wb, Wb = W.putObj (w.heap.size + 1) (L .busy none) := ⟨_, rfl⟩
      have hl2 : Wb.heap[w.heap.size + 1]? = some (L .busy none) := by rw [hWb]; exact World.putObj_heap_same hlt
      have hk2 : Wb.heap[w.heap.size]? = some (.deferred (some [])) := by rw [hWb]; exact (World.putObj_heap_other (by omega)).trans hk
      have hi2 : I pre Wb := by rw [hWb]; exact hI.put _ hi (.inl rfl)
      have zb : Wb.heap.size = W.heap.size := by rw [hWb]; simp
      have kb : KB W1.heap.size W Wb := by rw [hWb]; exact KB.put _ _ _ (by omega)
      -- the end of a round: by going on, or by a jump
      have fin : ∀ (jump : Option Code) (W3 : World), KB w.heap.size Wb W3 →
          (Instr.endRound (w.heap.size + 1) jump).run P W3 = .ok (.bool jump.isNone) (W3.putObj (w.heap.size + 1) (L (if jump.isNone then .ready else .done) jump)) ∧
          (W3.putObj (w.heap.size + 1) (L (if jump.isNone then .ready else .done) jump)).heap[w.heap.size + 1]? = some (L (if jump.isNone then .ready else .done) jump) ∧
          (W3.putObj (w.heap.size + 1) (L (if jump.isNone then .ready else .done) jump)).heap[w.heap.size]? = some (.deferred (some [])) ∧
          KB W1.heap.size W (W3.putObj (w.heap.size + 1) (L (if jump.isNone then .ready else .done) jump)) := fun jump W3 h3 => by
        have hl3 : W3.heap[w.heap.size + 1]? = some (L .busy none) := (h3.block _ (by omega) (by omega)).trans hl2
        have hk3 : W3.heap[w.heap.size]? = some (.deferred (some [])) := (h3.block _ (by omega) (by omega)).trans hk2
        have hl4 := hl3
        rw [hL] at hl4
        have he := run_endRound (P := P) jump hl4
        refine ⟨by rw [hL]; exact he, World.putObj_heap_same (dW _ _ _ hl3), (World.putObj_heap_other (by omega)).trans hk3, (kb.trans (h3.mono (by omega))).trans (KB.put _ _ _ (by omega))⟩
      have hb := hbody (w.heap.size + 1) pre x Wb hi2 hpre (by omega)
      have hb2 : body.wpIn (F.inRound (w.heap.size + 1)) (n - 1 - 1) P (bodyPostC w.heap.size I Ix (pre ++ [x]) Wb) (a₁ x) (W.putObj (w.heap.size + 1) (L .busy none)) := by rw [← hWb]; exact hb
      rw [hL] at hb2
      refine wpIn_mono hb2 ?_
      rintro e a3 W3 hp
      cases e with
      | normal =>
        obtain ⟨h3, hi3⟩ := hp
        obtain ⟨hr, hl4, hk4, kk⟩ := fin none W3 h3
        exact ⟨_, _, hr, .inl ⟨rfl, ⟨hI.put _ hi3 (.inl rfl), hl4, hk4⟩, kk⟩⟩
      | ret =>
        obtain ⟨h3, hi3⟩ := hp
        obtain ⟨hr, hl4, hk4, kk⟩ := fin (some .ret) W3 h3
        exact ⟨_, _, hr, .inr ⟨rfl, .ret, (hIx _).put _ hi3 (.inl rfl), hl4, hk4⟩⟩
      | exit id =>
        obtain ⟨h3, hi3⟩ := hp
        obtain ⟨hr, hl4, hk4, kk⟩ := fin (some (.exit id)) W3 h3
        exact ⟨_, _, hr, .inr ⟨rfl, .exit id, (hIx _).put _ hi3 (.inl rfl), hl4, hk4⟩⟩
      | goto t =>
        obtain ⟨h3, hi3⟩ := hp
        obtain ⟨hr, hl4, hk4, kk⟩ := fin (some (.goto t)) W3 h3
        exact ⟨_, _, hr, .inr ⟨rfl, .goto t, (hIx _).put _ hi3 (.inl rfl), hl4, hk4⟩⟩
      | panic ch => exact hp.elim
      | outgrown => exact hp.elim
    · rw [hW1]; exact hI.alloc _ (hI.alloc _ h0)
    · -- behind the iterator
      rintro e W2 ⟨⟨v, rfl⟩, pre, c, hi, hl, hk⟩
      have hl' := hl
      rw [hL] at hl'
      exact ⟨some c, _, run_endLoop (P := P) hl' (by simp), hstop c pre _ ((hIx c).put _ hi (.inl rfl)) ((World.putObj_heap_other (by omega)).trans hk)⟩

end Go.Proofs.YtknmfohipdjlpabGreatDoor
end

section
/- prime.rising yields 2, 3, 5, 7. -/
set_option linter.unusedSimpArgs false
set_option linter.unusedVariables false
set_option maxRecDepth 100000
namespace Go.Proofs.YtknmfohipdjlpabGreatDoor
open Go.RowKit
attribute [local go_sem] Oper.semAt_some

theorem Tryz.infoInt : (Tryz.prog.info? 3).map (fun i => (i.zero, i.size, i.bytes)) = some (some (.int .i64 0), 1, 8) := by kernel_rfl

/-- The primes below m. -/
def before7 : Nat → List Int
  | 3 => [2]
  | 4 => [2, 3]
  | 5 => [2, 3]
  | 6 => [2, 3, 5]
  | 7 => [2, 3, 5]
  | _ => []

def ints (l : List Int) : List Value := l.map (Value.int .i64)

theorem row_KB {B e n : Nat} {v : Value} {W W' : World} {xs : List Value} (h : W.ownsRow B e 1 v n xs) (k : KB B W W') : W'.ownsRow B e 1 v n xs := by
  obtain ⟨h1, h2⟩ := h
  refine ⟨h1, ?_⟩
  rcases h2 with h3 | ⟨g, cap, cur, h3, h4, h5, h6⟩
  · exact .inl h3
  · exact .inr ⟨g, cap, cur, h3, h4, (k.block g h4 (lt_of_some h5)).trans h5, h6⟩

theorem b7_len : ∀ m, 2 ≤ m → m ≤ 7 → (before7 m).length ≤ 3 := by
  intro m h1 h2
  rcases (show m = 2 ∨ m = 3 ∨ m = 4 ∨ m = 5 ∨ m = 6 ∨ m = 7 by omega) with rfl | rfl | rfl | rfl | rfl | rfl <;> decide
theorem b7_el : ∀ m, 2 ≤ m → m ≤ 7 → ∀ i, i < 3 → i < (before7 m).length → 2 ≤ (before7 m).getD i 0 ∧ (before7 m).getD i 0 ≤ 5 := by
  intro m h1 h2
  rcases (show m = 2 ∨ m = 3 ∨ m = 4 ∨ m = 5 ∨ m = 6 ∨ m = 7 by omega) with rfl | rfl | rfl | rfl | rfl | rfl <;> decide

/-- All ahead of place i leave something, and their squares are not above m. -/
def passed (m i : Nat) : Prop := ∀ j, j < i → (before7 m).getD j 0 * (before7 m).getD j 0 ≤ m ∧ (m : Int) % (before7 m).getD j 0 ≠ 0
instance (m i : Nat) : Decidable (passed m i) := by unfold passed; infer_instance

theorem b7_yield : ∀ m, 2 ≤ m → m ≤ 7 → ∀ i, i ≤ (before7 m).length → passed m i → (i = (before7 m).length ∨ (m : Int) < (before7 m).getD i 0 * (before7 m).getD i 0) → before7 m ++ [(m : Int)] <+: [2, 3, 5, 7] ∧ (m = 7 ∨ before7 (m + 1) = before7 m ++ [(m : Int)]) := by
  intro m h1 h2 i hi
  have h3 := b7_len m h1 h2
  rcases (show i = 0 ∨ i = 1 ∨ i = 2 ∨ i = 3 by omega) with rfl | rfl | rfl | rfl <;>
  rcases (show m = 2 ∨ m = 3 ∨ m = 4 ∨ m = 5 ∨ m = 6 ∨ m = 7 by omega) with rfl | rfl | rfl | rfl | rfl | rfl <;> revert hi <;> decide

theorem b7_go : ∀ m, 2 ≤ m → m ≤ 7 → ∀ i, i < (before7 m).length → passed m i → ¬ ((m : Int) < (before7 m).getD i 0 * (before7 m).getD i 0) → (m : Int) % (before7 m).getD i 0 = 0 → m < 7 ∧ before7 (m + 1) = before7 m := by
  intro m h1 h2 i hi
  have h3 := b7_len m h1 h2
  rcases (show i = 0 ∨ i = 1 ∨ i = 2 by omega) with rfl | rfl | rfl <;>
  rcases (show m = 2 ∨ m = 3 ∨ m = 4 ∨ m = 5 ∨ m = 6 ∨ m = 7 by omega) with rfl | rfl | rfl | rfl | rfl | rfl <;> revert hi <;> decide

end Go.Proofs.YtknmfohipdjlpabGreatDoor
end

section
/- A scope through which the run goes without a goto, inside a fence. -/
set_option linter.unusedSimpArgs false
set_option linter.unusedVariables false
set_option maxRecDepth 100000
namespace Go.Proofs.YtknmfohipdjlpabGreatDoor
open Go.RowKit

section
variable {F : Fence} {n : Nat} {P : Program} {Q : Exit → Act → World → Prop} {a : Act} {w : World}

theorem stepR_scope {b : Frame} {k : List Item} {cs : List Frame} {c : Code} : step P (lone (b.atR a (.code (.scope c) :: k)) cs w) = .next (lone (b.atR a (.code c :: .inScope c :: k)) cs w) :=
  step_lone_go (by simp [stepG, stepG.exec, Frame.atR])
theorem stepR_inScope {b : Frame} {k : List Item} {cs : List Frame} {c : Code} : step P (lone (b.atR a (.inScope c :: k)) cs w) = .next (lone (b.atR a k) cs w) :=
  step_lone_go (by simp [stepG, stepG.exec, Frame.atR])

theorem wpIn_scope_plain {c : Code} (h : c.wpIn F n P (Exit.noGoto Q) a w) : (Code.scope c).wpIn F n P Q a w := by
  intro b k cs hro hb hr
  have h0 : (lone (b.atR a (.code (.scope c) :: k)) cs w).fenced P F := fenced_calm hb hr rfl
  obtain ⟨e, a₁, w₁, hq, harr⟩ := h b (.inScope c :: k) cs hro hb hr
  cases e with
  | goto l => exact hq.elim
  | normal => exact ⟨.normal, a₁, w₁, hq, .head h0 stepR_scope (StepsIn.trans harr (.one (fenced_calm hb hr rfl) stepR_inScope))⟩
  | exit id =>
    have hx : exitTo id (.inScope c :: k) = exitTo id k := by simp [exitTo]
    exact ⟨.exit id, a₁, w₁, hq, fun k' hk => .head h0 stepR_scope (harr.1 k' (by rw [hx]; exact hk)),
      fun hr' hk => let ⟨k₁, h1, h2⟩ := harr.2 hr' (by rw [hx]; exact hk); ⟨k₁, h1, .head h0 stepR_scope h2⟩⟩
  | ret => exact ⟨_, a₁, w₁, hq, .of_steps (.one h0 stepR_scope) harr⟩
  | panic ch => exact ⟨_, a₁, w₁, hq, .of_steps (.one h0 stepR_scope) harr⟩
  | outgrown => exact ⟨_, a₁, w₁, hq, .of_steps (.one h0 stepR_scope) harr⟩
end

end Go.Proofs.YtknmfohipdjlpabGreatDoor
end

section
/- prime.rising yields 2, 3, 5, 7. -/
set_option linter.unusedSimpArgs false
set_option linter.unusedVariables false
set_option maxRecDepth 100000
namespace Go.Proofs.YtknmfohipdjlpabGreatDoor
open Go.RowKit
attribute [local go_sem] Oper.semAt_some

set_option maxHeartbeats 1000000 in
theorem rising_yields (F : Fence) (n : Nat) (hF : F.fn 56) (hro : F.round = none) (hn : 1 ≤ n) : Yields F n Tryz.prog 56 (fun B r => B ≤ r) [2, 3, 5, 7] := by
  intro l J Jx W hJ hJx hY hend h0
  obtain ⟨i0, hi, hz0, hz1, hz2⟩ := info_parts Tryz.infoInt
  have HI : Hid (Tryz.prog.info? 3 = some i0 ∧ i0.zero = some (.int .i64 0) ∧ i0.size = 1 ∧ i0.bytes = 8) := ⟨hi, hz0, hz1, hz2⟩
  have HY : Hid (∀ pre x W1, J pre W1 → pre ++ [x] <+: [2, 3, 5, 7] → YieldAt F (n - 1) Tryz.prog l #[.int .i64 x] W1 fun e W' =>
      (e = .returned (.bool true) ∧ J (pre ++ [x]) W' ∧ KB W.heap.size W1 W') ∨ (e = .returned (.bool false) ∧ Jx (pre ++ [x]) W')) := hY
  have HJ : Hid (AbR (fun r => W.heap.size ≤ r) J) := hJ
  have HEnd : Hid (∀ W1, J [2, 3, 5, 7] W1 → False) := hend
  have H0 : Hid (J [] W) := h0
  clear hi hz0 hz1 hz2 hY hJ hend h0 hJx
  refine callsIn_of_wp Tryz.func56 rfl hF ?_ hro
  simp only [Tryz.ntmps56, List.size_toArray, List.length_cons, List.length_nil, Nat.reduceAdd, Nat.reduceSub, Array.replicate_succ, Array.replicate_zero, List.push_toArray, List.append_toArray, List.nil_append, List.cons_append]
  refine wpIn_scope_plain ?_
  gi_wp2
  refine wpIn_label ?_
  gi_wp2
  gi_loopw [2, 3] (fun bv nv wr => ∃ (a : Option Addr) (c k m : Nat), bv = .slice a k c ∧ nv = .int .i64 m ∧ 2 ≤ m ∧ m ≤ 7 ∧ k ≤ 3 ∧ Hid (k = (before7 m).length ∧ J (before7 m) wr ∧ W.heap.size ≤ wr.heap.size ∧ wr.ownsRow W.heap.size 3 1 (.slice a k c) k (ints (before7 m)))) (fun _ nv _ => 8 - (intOf nv).toNat)
  case atStart => exact ⟨none, 0, 0, 2, rfl, rfl, by omega, by omega, by omega, rfl, H0.out, Nat.le_refl _, World.ownsRow_nil _ _ _ _⟩
  case round =>
    obtain ⟨wo, hwo⟩ : ∃ wo, wo = wr := ⟨_, rfl⟩
    subst hwo
    obtain ⟨a, c, k, m, rfl, rfl, hm1, hm2, hk3, HR⟩ := hrel
    obtain ⟨hk, hJm, hzo, hrow⟩ := HR.out
    have HKE : Hid (k = (before7 m).length) := hk
    have HJm : Hid (J (before7 m) wo) := hJm
    have HRow : Hid (wo.ownsRow W.heap.size 3 1 (.slice a k c) k (ints (before7 m))) := hrow
    clear hk hJm hrow HR
    gi_wp2
    gi_loopw [10] (fun iv wx => ∃ i : Nat, i ≤ k ∧ iv = .int .i64 i ∧ Hid (wx = wo ∧ passed m i)) (fun iv _ => k - (intOf iv).toNat)
    case atStart => exact ⟨0, Nat.zero_le _, rfl, rfl, fun j hj => absurd hj (Nat.not_lt_zero _)⟩
    case round =>
      obtain ⟨i, hi, rfl, HRi⟩ := hrel
      obtain ⟨hw, hpass⟩ := HRi.out
      subst hw
      have HPs : Hid (passed m i) := hpass
      clear hpass HRi
      by_cases hik : i < k
      · obtain ⟨g, rfl⟩ : ∃ g, a = some ⟨g, 0, none⟩ := by
          rcases HRow.out.2 with ⟨_, h⟩ | ⟨g, _, _, h, _⟩
          · omega
          · simp only [Value.slice.injEq] at h; exact ⟨g, h.1⟩
        obtain ⟨p, hp⟩ : ∃ p, p = (before7 m).getD i 0 := ⟨_, rfl⟩
        have hcell : wr.cell? ⟨g, i, none⟩ = some (.int .i64 p) := by
          rw [HRow.out.cellAt i (by omega), hp, ints, List.getElem?_map, List.getD_eq_getElem?_getD, List.getElem?_eq_getElem (by have := HKE.out; omega)]
          rfl
        obtain ⟨hp1, hp2⟩ := b7_el m hm1 hm2 i (by omega) (by have := HKE.out; omega)
        rw [← hp] at hp1 hp2
        have HP : Hid (p = (before7 m).getD i 0) := hp
        clear hp
        have hpp : 0 ≤ p * p ∧ p * p ≤ 25 := by
          have h1 : p = 2 ∨ p = 3 ∨ p = 4 ∨ p = 5 := by omega
          rcases h1 with rfl | rfl | rfl | rfl <;> decide
        have hp0 : (p == 0) = false := beq_eq_false_iff_ne.2 (by omega)
        by_cases hsq : (m : Int) < p * p
        · have hsqb : decide ((m : Int) < p * p) = true := decide_eq_true hsq
          obtain ⟨hpre, hnext⟩ := b7_yield m hm1 hm2 i (by have := HKE.out; omega) HPs.out (.inr (by rw [← HP.out]; exact hsq))
          have HNx : Hid (m = 7 ∨ before7 (m + 1) = before7 m ++ [(m : Int)]) := hnext
          obtain ⟨fn, tmps, assign, body, hy, hR⟩ := HY.out (before7 m) m wr HJm.out hpre
          clear hpre hnext
          gi_wp2
          refine hR.mono ?_
          rintro e W' (⟨rfl, hJ', hk'⟩ | ⟨rfl, hJx'⟩)
          · have row' := row_KB HRow.out hk'
            have zk := hk'.size
            have ROW : Hid (W'.ownsRow W.heap.size 3 1 (.slice (some ⟨g, 0, none⟩) k c) k (ints (before7 m))) := row'
            have JJ : Hid (J (before7 m ++ [(m : Int)]) W') := hJ'
            have hm7 : m ≠ 7 := by
              rintro rfl
              exact HEnd.out W' hJ'
            have hnx : before7 (m + 1) = before7 m ++ [(m : Int)] := by
              rcases HNx.out with h | h
              · exact absurd h hm7
              · exact h
            have HNX : Hid (before7 (m + 1) = before7 m ++ [(m : Int)]) := hnx
            clear row' hJ' hk' hnx HNx hR hy
            gi_wp2_with (gi_at_builtin; refine wpListIn_append_own _ rfl _ _ 46 rfl W.heap.size 3 i0 (.int .i64 0) 1 8 Tryz.underlying46 HI.out.1 HI.out.2.1 HI.out.2.2.1 HI.out.2.2.2 rfl (by decide) (.slice (some ⟨g, 0, none⟩) k c) k (ints (before7 m)) rfl (ROW.out.alloc _) ⟨W'.heap.size, 0, none⟩ 1 1 [.int .i64 m] rfl rfl (cell_one_new _ _ _) (by simp [Value.oneCell']) (by simp only [maxLen]; omega) (by omega) (by simp; omega) ?_; intro v' w1 hown' hgrow _; obtain ⟨g', cap', rfl⟩ := ownsRow_succ hown')
            have hJ1 : J (before7 m ++ [(m : Int)]) w1 := HJ.out _ _ _ _ (HJ.out.alloc _ JJ.out) hgrow (fun r e => (ROW.out.lt r e).1)
            have zg := hgrow.size
            simp at zg
            have hrow1 : w1.ownsRow W.heap.size 3 1 (.slice (some ⟨g', 0, none⟩) (k + 1) cap') (k + 1) (ints (before7 (m + 1))) := by
              rw [HNX.out, ints, List.map_append]; exact hown'
            have HJ1 : Hid (J (before7 (m + 1)) w1) := by rw [HNX.out]; exact hJ1
            have HR1 : Hid (w1.ownsRow W.heap.size 3 1 (.slice (some ⟨g', 0, none⟩) (k + 1) cap') (k + 1) (ints (before7 (m + 1)))) := hrow1
            have hk1 : k + 1 ≤ 3 := by
              have h1 := b7_len (m + 1) (by omega) (by omega)
              rw [HNX.out, List.length_append] at h1
              have := HKE.out
              simp at h1; omega
            clear hJ1 hrow1 hown' hgrow
            gi_wp2
            go_roundw
            case rel =>
              refine ⟨some ⟨g', 0, none⟩, cap', k + 1, m + 1, rfl, by go_num, by omega, by omega, hk1, ?_, HJ1.out, by omega, HR1.out⟩
              rw [HNX.out, List.length_append, ← HKE.out]; rfl
            case measure => simp [intOf]; omega
          · gi_wp2
            rw [Exit.noGoto_ret]
            exact bodyPost_ret (results_none rfl _ _ _) rfl ⟨⟨_, rfl⟩, _, hJx'⟩
        · have hsqb : decide ((m : Int) < p * p) = false := decide_eq_false hsq
          by_cases hmod : (m : Int) % p = 0
          · obtain ⟨hm7, hnx⟩ := b7_go m hm1 hm2 i (by have := HKE.out; omega) HPs.out (by rw [← HP.out]; exact hsq) (by rw [← HP.out]; exact hmod)
            have hmb : (((m : Int) % p) == 0) = true := by rw [hmod]; rfl
            have HNX : Hid (before7 (m + 1) = before7 m) := hnx
            clear hnx hmod hsq
            gi_wp2
            go_roundw
            case rel =>
              refine ⟨some ⟨g, 0, none⟩, c, k, m + 1, rfl, by go_num, by omega, by omega, hk3, ?_, ?_, by omega, ?_⟩
              · rw [HNX.out]; exact HKE.out
              · rw [HNX.out]; exact HJm.out
              · rw [HNX.out]; exact HRow.out
            case measure => simp [intOf]; omega
          · have hmb : (((m : Int) % p) == 0) = false := beq_eq_false_iff_ne.2 hmod
            have HN : Hid (passed m (i + 1)) := by
              intro j hj
              by_cases hji : j = i
              · subst hji; rw [← HP.out]; exact ⟨by omega, hmod⟩
              · exact HPs.out j (by omega)
            clear hmod hsq
            gi_wp2
            go_roundw
            case rel => exact ⟨i + 1, by omega, by go_num, by first | rfl | trivial, HN.out⟩
            case measure => simp [intOf]; omega
      · obtain rfl : i = k := by omega
        obtain ⟨hpre, hnext⟩ := b7_yield m hm1 hm2 i (by have := HKE.out; omega) HPs.out (.inl HKE.out)
        have HNx : Hid (m = 7 ∨ before7 (m + 1) = before7 m ++ [(m : Int)]) := hnext
        obtain ⟨fn, tmps, assign, body, hy, hR⟩ := HY.out (before7 m) m wr HJm.out hpre
        clear hpre hnext
        gi_wp2
        refine hR.mono ?_
        rintro e W' (⟨rfl, hJ', hk'⟩ | ⟨rfl, hJx'⟩)
        · have row' := row_KB HRow.out hk'
          have zk := hk'.size
          have ROW : Hid (W'.ownsRow W.heap.size 3 1 (.slice a i c) i (ints (before7 m))) := row'
          have JJ : Hid (J (before7 m ++ [(m : Int)]) W') := hJ'
          have hm7 : m ≠ 7 := by
            rintro rfl
            exact HEnd.out W' hJ'
          have hnx : before7 (m + 1) = before7 m ++ [(m : Int)] := by
            rcases HNx.out with h | h
            · exact absurd h hm7
            · exact h
          have HNX : Hid (before7 (m + 1) = before7 m ++ [(m : Int)]) := hnx
          clear row' hJ' hk' hnx HNx hR hy
          gi_wp2_with (gi_at_builtin; refine wpListIn_append_own _ rfl _ _ 46 rfl W.heap.size 3 i0 (.int .i64 0) 1 8 Tryz.underlying46 HI.out.1 HI.out.2.1 HI.out.2.2.1 HI.out.2.2.2 rfl (by decide) (.slice a i c) i (ints (before7 m)) rfl (ROW.out.alloc _) ⟨W'.heap.size, 0, none⟩ 1 1 [.int .i64 m] rfl rfl (cell_one_new _ _ _) (by simp [Value.oneCell']) (by simp only [maxLen]; omega) (by omega) (by simp; omega) ?_; intro v' w1 hown' hgrow _; obtain ⟨g', cap', rfl⟩ := ownsRow_succ hown')
          have hJ1 : J (before7 m ++ [(m : Int)]) w1 := HJ.out _ _ _ _ (HJ.out.alloc _ JJ.out) hgrow (fun r e => (ROW.out.lt r e).1)
          have zg := hgrow.size
          simp at zg
          have hrow1 : w1.ownsRow W.heap.size 3 1 (.slice (some ⟨g', 0, none⟩) (i + 1) cap') (i + 1) (ints (before7 (m + 1))) := by
            rw [HNX.out, ints, List.map_append]; exact hown'
          have HJ1 : Hid (J (before7 (m + 1)) w1) := by rw [HNX.out]; exact hJ1
          have HR1 : Hid (w1.ownsRow W.heap.size 3 1 (.slice (some ⟨g', 0, none⟩) (i + 1) cap') (i + 1) (ints (before7 (m + 1)))) := hrow1
          have hk1 : i + 1 ≤ 3 := by
            have h1 := b7_len (m + 1) (by omega) (by omega)
            rw [HNX.out, List.length_append] at h1
            have := HKE.out
            simp at h1; omega
          clear hJ1 hrow1 hown' hgrow
          gi_wp2
          go_roundw
          case rel =>
            refine ⟨some ⟨g', 0, none⟩, cap', i + 1, m + 1, rfl, by go_num, by omega, by omega, hk1, ?_, HJ1.out, by omega, HR1.out⟩
            rw [HNX.out, List.length_append, ← HKE.out]; rfl
          case measure => simp [intOf]; omega
        · gi_wp2
          rw [Exit.noGoto_ret]
          exact bodyPost_ret (results_none rfl _ _ _) rfl ⟨⟨_, rfl⟩, _, hJx'⟩

end Go.Proofs.YtknmfohipdjlpabGreatDoor
end

section
/- prime.isPrime at 2, 3, 5 and 7. -/
set_option linter.unusedSimpArgs false
set_option linter.unusedVariables false
set_option maxRecDepth 100000
namespace Go.Proofs.YtknmfohipdjlpabGreatDoor
open Go.RowKit
attribute [local go_sem] Oper.semAt_some

theorem AbR.and {R : Nat → Prop} {J K : List Int → World → Prop} (h : AbR R J) (k : AbR R K) : AbR R (fun s W => J s W ∧ K s W) :=
  fun s W W' row hs hg hr => ⟨h s W W' row hs.1 hg hr, k s W W' row hs.2 hg hr⟩
theorem AbR.pure (R : Nat → Prop) (p : List Int → Prop) : AbR R (fun s _ => p s) := fun s W W' row hs _ _ => hs
theorem AbR.cell (R : Nat → Prop) (b o : Nat) (v : Value) (hb : ¬ R b) : AbR R (fun _ W => W.cell? ⟨b, o, none⟩ = some v) :=
  fun s W W' row hs hg hr => hg.cell hs (fun e => hb (hr b e.symm))
theorem AbR.cells (R : Nat → Prop) (b o : Nat) (v : Value) (hb : ¬ R b) : AbR R (fun _ W => W.cell? ⟨b, o, none⟩ = some v ∧ W.frozen? ⟨b, o, none⟩ = false) :=
  fun s W W' row hs hg hr => ⟨hg.cell hs.1 (fun e => hb (hr b e.symm)), by
    have hlt : b < W.heap.size := by
      rcases Nat.lt_or_ge b W.heap.size with h | h
      · exact h
      · have h1 := hs.1
        simp only [World.cell?, Array.getElem?_eq_none h] at h1; cases h1
    rw [World.frozen?_of_block (w := W) (a := ⟨b, o, none⟩) (hg.block b hlt (fun e => hb (hr b e.symm)))]; exact hs.2⟩
theorem AbR.under (R : Nat → Prop) (b : Nat) (w : World) (hb : b ≤ w.heap.size) (hB : ∀ r, R r → b ≤ r) : AbR R (fun _ W => Below b w W) :=
  fun s W W' row hs hg hr => hs.grown hg (Nat.le_trans hb hs.size) (fun k e => hB k (hr k e))

theorem in7 {pre : List Int} {x : Int} (h : pre ++ [x] <+: [2, 3, 5, 7]) : x = 2 ∨ x = 3 ∨ x = 5 ∨ x = 7 := by
  have h1 : x ∈ [2, 3, 5, 7] := h.subset (by simp)
  simpa using h1

set_option maxHeartbeats 1000000 in
theorem isPrime_small (N : Nat) (hN : N = 2 ∨ N = 3 ∨ N = 5 ∨ N = 7) (w : World) :
    Calls Tryz.prog 36 #[.int .i64 N] w fun e w' => e = .returned (.bool true) ∧ Below w.heap.size w w' := by
  have HN : Hid (N = 2 ∨ N = 3 ∨ N = 5 ∨ N = 7) := hN
  have hN1 : 2 ≤ N := by omega
  have hN2 : N ≤ 7 := by omega
  have hNl : decide ((N : Int) < 2) = false := decide_eq_false (by omega)
  clear hN
  refine (callsIn_wide (n := 5)).1 ?_
  refine callsIn_of_wp_marks Tryz.func36 rfl trivial ?_ rfl
  simp only [Tryz.ntmps36, List.size_toArray, List.length_cons, List.length_nil, Nat.reduceAdd, Nat.reduceSub, Array.replicate_succ, Array.replicate_zero, List.push_toArray, List.append_toArray, List.nil_append, List.cons_append]
  gi_wp2
  obtain ⟨W0, hW0⟩ : ∃ W0, W0 = (w.alloc (.cells #[.int .i64 N] 3)).alloc (.cells #[.bool false] 4) := ⟨_, rfl⟩
  rw [← hW0]
  have z0 : W0.heap.size = w.heap.size + 2 := by rw [hW0]; simp
  have c0 : W0.cell? ⟨w.heap.size, 0, none⟩ = some (.int .i64 N) := by rw [hW0, cell_old_at _ _ _ (by simp), cell_new_at _ _ _ _ _ rfl]; rfl
  have c1 : W0.cell? ⟨w.heap.size + 1, 0, none⟩ = some (.bool false) := by rw [hW0, cell_new_at _ _ _ _ _ (by simp)]; rfl
  have f1 : W0.frozen? ⟨w.heap.size + 1, 0, none⟩ = false := by rw [hW0, frozen_new_at _ _ _ _ _ (by simp)]
  have k0 : Below w.heap.size w W0 := by rw [hW0]; exact ((Below.refl _ _).alloc (Nat.le_refl _) _).alloc (by simp) _
  clear hW0
  refine wpIn_rangeC (F := Fence.wide) (n := 5) rfl (by decide) (gf := 56) rfl trivial (enters_of Tryz.func56 (by kernel_rfl) rfl) (fun _ _ h => h) (rising_yields Fence.wide (5 - 1) trivial rfl (by decide)) rfl
    (fun pre W => (∀ y ∈ pre, (N : Int) % y ≠ 0) ∧ W.cell? ⟨w.heap.size, 0, none⟩ = some (.int .i64 N) ∧ (W.cell? ⟨w.heap.size + 1, 0, none⟩ = some (.bool false) ∧ W.frozen? ⟨w.heap.size + 1, 0, none⟩ = false) ∧ Below w.heap.size w W)
    (fun c pre W => c = .ret ∧ W.cell? ⟨w.heap.size + 1, 0, none⟩ = some (.bool true) ∧ Below w.heap.size w W)
    (AbR.and (AbR.pure _ _) (AbR.and (AbR.cell _ _ _ _ (by omega)) (AbR.and (AbR.cells _ _ _ _ (by omega)) (AbR.under _ _ _ (Nat.le_refl _) (by intro r h; omega)))))
    (fun c => AbR.and (AbR.pure _ (fun _ => c = .ret)) (AbR.and (AbR.cell _ _ _ _ (by omega)) (AbR.under _ _ _ (Nat.le_refl _) (by intro r h; omega))))
    ⟨by simp, c0, ⟨c1, f1⟩, k0⟩
    (fun x => { tmps := #[.int .i64 N, .pointer (some ⟨w.heap.size, 0, none⟩), .pointer (some ⟨w.heap.size + 1, 0, none⟩), .int .i64 x, undef, .int .i64 N, .bool false, .int .i64 x, undef, undef, undef, undef, undef, undef, undef, undef, undef, undef, undef, undef, undef, undef, undef], defers := [] }) ?assign ?body ?hend ?stop
  case assign =>
    intro l x W K hK
    gi_wp2
    exact hK
  case body =>
    rintro l pre x W ⟨hp, hc, ⟨hr, hf⟩, hB⟩ hpre hz
    have hx := in7 hpre
    have hxb : decide ((23 : Int) < x) = false := decide_eq_false (by omega)
    have hx0 : (x == 0) = false := beq_eq_false_iff_ne.2 (by omega)
    have HP : Hid (∀ y ∈ pre, (N : Int) % y ≠ 0) := hp
    have HX : Hid (x = 2 ∨ x = 3 ∨ x = 5 ∨ x = 7) := hx
    have hx1 : 2 ≤ x := by omega
    have hx2 : x ≤ 7 := by omega
    have KW : Hid (Below w.heap.size w W) := hB
    clear hp hx hpre hB
    by_cases hm : (N : Int) % x = 0
    · have hmb : (((N : Int) % x) == 0) = true := by rw [hm]; rfl
      have hNx : (N : Int) = x := by
        rcases HN.out with rfl | rfl | rfl | rfl <;> rcases HX.out with rfl | rfl | rfl | rfl <;> revert hm <;> decide
      have hNb : ((N : Int) == x) = true := beq_iff_eq.2 hNx
      clear hm hNx
      gi_wp2
      exact ⟨(KB.refl _ _).setCell (by show w.heap.size + 1 < _; omega) _, rfl, World.cell?_setCell_same' _ _ _ (by rw [hr]; rfl), KW.out.setCell (by simp) _⟩
    · have hmb : (((N : Int) % x) == 0) = false := beq_eq_false_iff_ne.2 hm
      have HM : Hid ((N : Int) % x ≠ 0) := hm
      clear hm
      gi_wp2
      refine ⟨KB.refl _ _, fun y hy => ?_, hc, ⟨hr, hf⟩, KW.out⟩
      rcases List.mem_append.1 hy with h | h
      · exact HP.out y h
      · simp at h; subst h; exact HM.out
  case hend =>
    rintro W ⟨hp, _⟩
    rcases HN.out with rfl | rfl | rfl | rfl
    · exact hp 2 (by simp) (by decide)
    · exact hp 3 (by simp) (by decide)
    · exact hp 5 (by simp) (by decide)
    · exact hp 7 (by simp) (by decide)
  case stop =>
    rintro c pre W ⟨rfl, hr, hB⟩ hK
    gi_wp2
    refine ⟨by simp, .inl ⟨_, _, rfl, run_takeDeferred hK, ?_⟩⟩
    have hc5 : (W.putObj W0.heap.size (.deferred none)).cell? ⟨w.heap.size + 1, 0, none⟩ = some (.bool true) := (grownBy_putObj' W W0.heap.size (.deferred none)).cell hr (by intro e; simp only [Option.some.injEq] at e; omega)
    refine ⟨.bool true, ?_, rfl, hB.grown (grownBy_putObj' W W0.heap.size (.deferred none)) hB.size (fun k e => by cases e; omega)⟩
    simp [results, Tryz.f36, go_sem, hc5]

end Go.Proofs.YtknmfohipdjlpabGreatDoor
end

section
/- prime.rising yields 2, 3; of memory it makes new blocks alone. -/
set_option linter.unusedSimpArgs false
set_option linter.unusedVariables false
set_option maxRecDepth 100000
namespace Go.Proofs.YtknmfohipdjlpabGreatDoor
open Go.RowKit
attribute [local go_sem] Oper.semAt_some

theorem b7_yield2 : ∀ m, 2 ≤ m → m ≤ 3 → ∀ i, i ≤ (before7 m).length → passed m i → (i = (before7 m).length ∨ (m : Int) < (before7 m).getD i 0 * (before7 m).getD i 0) → before7 m ++ [(m : Int)] <+: [2, 3] ∧ (m = 3 ∨ before7 (m + 1) = before7 m ++ [(m : Int)]) := by
  intro m h1 h2 i hi
  have h3 := b7_len m h1 (by omega)
  rcases (show i = 0 ∨ i = 1 ∨ i = 2 ∨ i = 3 by omega) with rfl | rfl | rfl | rfl <;>
  rcases (show m = 2 ∨ m = 3 by omega) with rfl | rfl <;> revert hi <;> decide

theorem b7_no : ∀ m, 2 ≤ m → m ≤ 3 → ∀ i, i < (before7 m).length → ¬ ((m : Int) < (before7 m).getD i 0 * (before7 m).getD i 0) → False := by
  intro m h1 h2 i hi
  have h3 := b7_len m h1 (by omega)
  rcases (show i = 0 ∨ i = 1 ∨ i = 2 by omega) with rfl | rfl | rfl <;>
  rcases (show m = 2 ∨ m = 3 by omega) with rfl | rfl <;> revert hi <;> decide

set_option maxHeartbeats 1000000 in
theorem rising_two (F : Fence) (n : Nat) (hF : F.fn 56) (hro : F.round = none) (hn : 1 ≤ n) : Yields F n Tryz.prog 56 (fun _ _ => False) [2, 3] := by
  intro l J Jx W hJ hJx hY hend h0
  obtain ⟨i0, hi, hz0, hz1, hz2⟩ := info_parts Tryz.infoInt
  have HI : Hid (Tryz.prog.info? 3 = some i0 ∧ i0.zero = some (.int .i64 0) ∧ i0.size = 1 ∧ i0.bytes = 8) := ⟨hi, hz0, hz1, hz2⟩
  have HY : Hid (∀ pre x W1, J pre W1 → pre ++ [x] <+: [2, 3] → YieldAt F (n - 1) Tryz.prog l #[.int .i64 x] W1 fun e W' =>
      (e = .returned (.bool true) ∧ J (pre ++ [x]) W' ∧ KB W.heap.size W1 W') ∨ (e = .returned (.bool false) ∧ Jx (pre ++ [x]) W')) := hY
  have HJ : Hid (AbR (fun _ => False) J) := hJ
  have HEnd : Hid (∀ W1, J [2, 3] W1 → False) := hend
  have H0 : Hid (J [] W) := h0
  clear hi hz0 hz1 hz2 hY hJ hend h0 hJx
  refine callsIn_of_wp Tryz.func56 rfl hF ?_ hro
  simp only [Tryz.ntmps56, List.size_toArray, List.length_cons, List.length_nil, Nat.reduceAdd, Nat.reduceSub, Array.replicate_succ, Array.replicate_zero, List.push_toArray, List.append_toArray, List.nil_append, List.cons_append]
  refine wpIn_scope_plain ?_
  gi_wp2
  refine wpIn_label ?_
  gi_wp2
  gi_loopw [2, 3] (fun bv nv wr => ∃ (a : Option Addr) (c k m : Nat), bv = .slice a k c ∧ nv = .int .i64 m ∧ 2 ≤ m ∧ m ≤ 3 ∧ k ≤ 3 ∧ Hid ((m = 2 → a = none) ∧ k = (before7 m).length ∧ J (before7 m) wr ∧ W.heap.size ≤ wr.heap.size ∧ wr.ownsRow W.heap.size 3 1 (.slice a k c) k (ints (before7 m)))) (fun _ nv _ => 4 - (intOf nv).toNat)
  case atStart => exact ⟨none, 0, 0, 2, rfl, rfl, by omega, by omega, by omega, fun _ => rfl, rfl, H0.out, Nat.le_refl _, World.ownsRow_nil _ _ _ _⟩
  case round =>
    obtain ⟨wo, hwo⟩ : ∃ wo, wo = wr := ⟨_, rfl⟩
    subst hwo
    obtain ⟨a, c, k, m, rfl, rfl, hm1, hm2, hk3, HR⟩ := hrel
    obtain ⟨hA2, hk, hJm, hzo, hrow⟩ := HR.out
    have HA2 : Hid (m = 2 → a = none) := hA2
    have HKE : Hid (k = (before7 m).length) := hk
    have HJm : Hid (J (before7 m) wo) := hJm
    have HRow : Hid (wo.ownsRow W.heap.size 3 1 (.slice a k c) k (ints (before7 m))) := hrow
    clear hk hJm hrow HR hA2
    gi_wp2
    gi_loopw [10] (fun iv wx => ∃ i : Nat, i ≤ k ∧ iv = .int .i64 i ∧ Hid (wx = wo ∧ passed m i)) (fun iv _ => k - (intOf iv).toNat)
    case atStart => exact ⟨0, Nat.zero_le _, rfl, rfl, fun j hj => absurd hj (Nat.not_lt_zero _)⟩
    case round =>
      obtain ⟨i, hi, rfl, HRi⟩ := hrel
      obtain ⟨hw, hpass⟩ := HRi.out
      subst hw
      have HPs : Hid (passed m i) := hpass
      clear hpass HRi
      by_cases hik : i < k
      · obtain ⟨g, rfl⟩ : ∃ g, a = some ⟨g, 0, none⟩ := by
          rcases HRow.out.2 with ⟨_, h⟩ | ⟨g, _, _, h, _⟩
          · omega
          · simp only [Value.slice.injEq] at h; exact ⟨g, h.1⟩
        obtain ⟨p, hp⟩ : ∃ p, p = (before7 m).getD i 0 := ⟨_, rfl⟩
        have hcell : wr.cell? ⟨g, i, none⟩ = some (.int .i64 p) := by
          rw [HRow.out.cellAt i (by omega), hp, ints, List.getElem?_map, List.getD_eq_getElem?_getD, List.getElem?_eq_getElem (by have := HKE.out; omega)]
          rfl
        obtain ⟨hp1, hp2⟩ := b7_el m hm1 (by omega) i (by omega) (by have := HKE.out; omega)
        rw [← hp] at hp1 hp2
        have HP : Hid (p = (before7 m).getD i 0) := hp
        clear hp
        have hpp : 0 ≤ p * p ∧ p * p ≤ 25 := by
          have h1 : p = 2 ∨ p = 3 ∨ p = 4 ∨ p = 5 := by omega
          rcases h1 with rfl | rfl | rfl | rfl <;> decide
        have hp0 : (p == 0) = false := beq_eq_false_iff_ne.2 (by omega)
        by_cases hsq : (m : Int) < p * p
        · have hsqb : decide ((m : Int) < p * p) = true := decide_eq_true hsq
          obtain ⟨hpre, hnext⟩ := b7_yield2 m hm1 hm2 i (by have := HKE.out; omega) HPs.out (.inr (by rw [← HP.out]; exact hsq))
          have HNx : Hid (m = 3 ∨ before7 (m + 1) = before7 m ++ [(m : Int)]) := hnext
          obtain ⟨fn, tmps, assign, body, hy, hR⟩ := HY.out (before7 m) m wr HJm.out hpre
          clear hpre hnext
          gi_wp2
          refine hR.mono ?_
          rintro e W' (⟨rfl, hJ', hk'⟩ | ⟨rfl, hJx'⟩)
          · have row' := row_KB HRow.out hk'
            have zk := hk'.size
            have ROW : Hid (W'.ownsRow W.heap.size 3 1 (.slice (some ⟨g, 0, none⟩) k c) k (ints (before7 m))) := row'
            have JJ : Hid (J (before7 m ++ [(m : Int)]) W') := hJ'
            have hm7 : m ≠ 3 := by
              rintro rfl
              exact HEnd.out W' hJ'
            have hnx : before7 (m + 1) = before7 m ++ [(m : Int)] := by
              rcases HNx.out with h | h
              · exact absurd h hm7
              · exact h
            have HNX : Hid (before7 (m + 1) = before7 m ++ [(m : Int)]) := hnx
            have HA3 : Hid (∀ r, (Value.slice (some ⟨g, 0, none⟩) k c).ownBlock = some r → False) := by
              intro r e
              have h := HA2.out (by omega)
              cases h
            clear row' hJ' hk' hnx HNx hR hy
            gi_wp2_with (gi_at_builtin; refine wpListIn_append_own _ rfl _ _ 46 rfl W.heap.size 3 i0 (.int .i64 0) 1 8 Tryz.underlying46 HI.out.1 HI.out.2.1 HI.out.2.2.1 HI.out.2.2.2 rfl (by decide) (.slice (some ⟨g, 0, none⟩) k c) k (ints (before7 m)) rfl (ROW.out.alloc _) ⟨W'.heap.size, 0, none⟩ 1 1 [.int .i64 m] rfl rfl (cell_one_new _ _ _) (by simp [Value.oneCell']) (by simp only [maxLen]; omega) (by omega) (by simp; omega) ?_; intro v' w1 hown' hgrow _; obtain ⟨g', cap', rfl⟩ := ownsRow_succ hown')
            have hJ1 : J (before7 m ++ [(m : Int)]) w1 := HJ.out _ _ _ _ (HJ.out.alloc _ JJ.out) hgrow (fun r e => HA3.out r e)
            have zg := hgrow.size
            simp at zg
            have hrow1 : w1.ownsRow W.heap.size 3 1 (.slice (some ⟨g', 0, none⟩) (k + 1) cap') (k + 1) (ints (before7 (m + 1))) := by
              rw [HNX.out, ints, List.map_append]; exact hown'
            have HJ1 : Hid (J (before7 (m + 1)) w1) := by rw [HNX.out]; exact hJ1
            have HR1 : Hid (w1.ownsRow W.heap.size 3 1 (.slice (some ⟨g', 0, none⟩) (k + 1) cap') (k + 1) (ints (before7 (m + 1)))) := hrow1
            have hk1 : k + 1 ≤ 3 := by
              have h1 := b7_len (m + 1) (by omega) (by omega)
              rw [HNX.out, List.length_append] at h1
              have := HKE.out
              simp at h1; omega
            clear hJ1 hrow1 hown' hgrow
            gi_wp2
            go_roundw
            case rel =>
              refine ⟨some ⟨g', 0, none⟩, cap', k + 1, m + 1, rfl, by go_num, by omega, by omega, hk1, fun h => absurd h (by omega), ?_, HJ1.out, by omega, HR1.out⟩
              rw [HNX.out, List.length_append, ← HKE.out]; rfl
            case measure => simp [intOf]; omega
          · gi_wp2
            rw [Exit.noGoto_ret]
            exact bodyPost_ret (results_none rfl _ _ _) rfl ⟨⟨_, rfl⟩, _, hJx'⟩
        · have hsqb : decide ((m : Int) < p * p) = false := decide_eq_false hsq
          exfalso
          exact b7_no m hm1 hm2 i (by have := HKE.out; omega) (by rw [← HP.out]; exact hsq)
      · obtain rfl : i = k := by omega
        obtain ⟨hpre, hnext⟩ := b7_yield2 m hm1 hm2 i (by have := HKE.out; omega) HPs.out (.inl HKE.out)
        have HNx : Hid (m = 3 ∨ before7 (m + 1) = before7 m ++ [(m : Int)]) := hnext
        obtain ⟨fn, tmps, assign, body, hy, hR⟩ := HY.out (before7 m) m wr HJm.out hpre
        clear hpre hnext
        gi_wp2
        refine hR.mono ?_
        rintro e W' (⟨rfl, hJ', hk'⟩ | ⟨rfl, hJx'⟩)
        · have row' := row_KB HRow.out hk'
          have zk := hk'.size
          have ROW : Hid (W'.ownsRow W.heap.size 3 1 (.slice a i c) i (ints (before7 m))) := row'
          have JJ : Hid (J (before7 m ++ [(m : Int)]) W') := hJ'
          have hm7 : m ≠ 3 := by
            rintro rfl
            exact HEnd.out W' hJ'
          have hnx : before7 (m + 1) = before7 m ++ [(m : Int)] := by
            rcases HNx.out with h | h
            · exact absurd h hm7
            · exact h
          have HNX : Hid (before7 (m + 1) = before7 m ++ [(m : Int)]) := hnx
          have HA3 : Hid (∀ r, (Value.slice a i c).ownBlock = some r → False) := by
            intro r e
            have h := HA2.out (by omega)
            subst h; cases e
          clear row' hJ' hk' hnx HNx hR hy
          gi_wp2_with (gi_at_builtin; refine wpListIn_append_own _ rfl _ _ 46 rfl W.heap.size 3 i0 (.int .i64 0) 1 8 Tryz.underlying46 HI.out.1 HI.out.2.1 HI.out.2.2.1 HI.out.2.2.2 rfl (by decide) (.slice a i c) i (ints (before7 m)) rfl (ROW.out.alloc _) ⟨W'.heap.size, 0, none⟩ 1 1 [.int .i64 m] rfl rfl (cell_one_new _ _ _) (by simp [Value.oneCell']) (by simp only [maxLen]; omega) (by omega) (by simp; omega) ?_; intro v' w1 hown' hgrow _; obtain ⟨g', cap', rfl⟩ := ownsRow_succ hown')
          have hJ1 : J (before7 m ++ [(m : Int)]) w1 := HJ.out _ _ _ _ (HJ.out.alloc _ JJ.out) hgrow (fun r e => HA3.out r e)
          have zg := hgrow.size
          simp at zg
          have hrow1 : w1.ownsRow W.heap.size 3 1 (.slice (some ⟨g', 0, none⟩) (i + 1) cap') (i + 1) (ints (before7 (m + 1))) := by
            rw [HNX.out, ints, List.map_append]; exact hown'
          have HJ1 : Hid (J (before7 (m + 1)) w1) := by rw [HNX.out]; exact hJ1
          have HR1 : Hid (w1.ownsRow W.heap.size 3 1 (.slice (some ⟨g', 0, none⟩) (i + 1) cap') (i + 1) (ints (before7 (m + 1)))) := hrow1
          have hk1 : i + 1 ≤ 3 := by
            have h1 := b7_len (m + 1) (by omega) (by omega)
            rw [HNX.out, List.length_append] at h1
            have := HKE.out
            simp at h1; omega
          clear hJ1 hrow1 hown' hgrow
          gi_wp2
          go_roundw
          case rel =>
            refine ⟨some ⟨g', 0, none⟩, cap', i + 1, m + 1, rfl, by go_num, by omega, by omega, hk1, fun h => absurd h (by omega), ?_, HJ1.out, by omega, HR1.out⟩
            rw [HNX.out, List.length_append, ← HKE.out]; rfl
          case measure => simp [intOf]; omega
        · gi_wp2
          rw [Exit.noGoto_ret]
          exact bodyPost_ret (results_none rfl _ _ _) rfl ⟨⟨_, rfl⟩, _, hJx'⟩

end Go.Proofs.YtknmfohipdjlpabGreatDoor
end

section
/- prime.appendGreat of a small prime; prime.factors of 2 and of 6. -/
set_option linter.unusedSimpArgs false
set_option linter.unusedVariables false
set_option maxRecDepth 100000
namespace Go.Proofs.YtknmfohipdjlpabGreatDoor
open Go.RowKit
attribute [local go_sem] Oper.semAt_some

set_option maxHeartbeats 400000 in
theorem appendGreat_prime (N : Nat) (hN : N = 2 ∨ N = 3 ∨ N = 5 ∨ N = 7) (a : Option Addr) (c B : Nat) (l : List Int) (w : World) (hl : l.length ≤ 100) (hB : B ≤ w.heap.size) (row : w.ownsRow B 3 1 (.slice a l.length c) l.length (ints l)) :
    Calls Tryz.prog 69 #[.slice a l.length c, .int .i64 N] w fun e w' => ∃ g c', e = .returned (.slice (some ⟨g, 0, none⟩) (l.length + 1) c') ∧ w'.ownsRow B 3 1 (.slice (some ⟨g, 0, none⟩) (l.length + 1) c') (l.length + 1) (ints (l ++ [(N : Int)])) ∧ Below B w w' := by
  obtain ⟨i0, hi, hz0, hz1, hz2⟩ := info_parts Tryz.infoInt
  have HI : Hid (Tryz.prog.info? 3 = some i0 ∧ i0.zero = some (.int .i64 0) ∧ i0.size = 1 ∧ i0.bytes = 8) := ⟨hi, hz0, hz1, hz2⟩
  have HRow : Hid (w.ownsRow B 3 1 (.slice a l.length c) l.length (ints l)) := row
  have HN : Hid (N = 2 ∨ N = 3 ∨ N = 5 ∨ N = 7) := hN
  have hN1 : ((N : Int) == 1) = false := beq_eq_false_iff_ne.2 (by omega)
  clear hi hz0 hz1 hz2 row hN
  go_enter Tryz.func69, Tryz.ntmps69
  go_wp2_with fail
  refine (isPrime_small N HN.out w).mono ?_
  rintro e w1 ⟨rfl, k1⟩
  have z1 := k1.size
  have K1 : Hid (Below w.heap.size w w1) := k1
  have R1 : Hid (w1.ownsRow B 3 1 (.slice a l.length c) l.length (ints l)) := by
    obtain ⟨h1, h2⟩ := HRow.out
    refine ⟨h1, ?_⟩
    rcases h2 with h3 | ⟨g, cap, cur, h3, h4, h5, h6⟩
    · exact .inl h3
    · exact .inr ⟨g, cap, cur, h3, h4, (k1.block g (lt_of_some h5)).trans h5, h6⟩
  clear k1 HRow
  go_wp2_with (at_builtin; refine wpList_append_own _ rfl _ _ 46 rfl B 3 i0 (.int .i64 0) 1 8 Tryz.underlying46 HI.out.1 HI.out.2.1 HI.out.2.2.1 HI.out.2.2.2 rfl (by decide) (.slice a l.length c) l.length (ints l) rfl (R1.out.alloc _) ⟨w1.heap.size, 0, none⟩ 1 1 [.int .i64 N] rfl rfl (cell_one_new _ _ _) (by simp [Value.oneCell']) (by simp only [maxLen]; omega) (by omega) (by simp; omega) ?_; intro v' w2 hown' hgrow _; obtain ⟨g', cap', rfl⟩ := ownsRow_succ hown')
  have hb : Below B w w2 := ((K1.out.mono hB).alloc (by omega) _).grown hgrow (by simp; omega) (fun k e => (R1.out.lt k e).1)
  have HB : Hid (Below B w w2) := hb
  have HO : Hid (w2.ownsRow B 3 1 (.slice (some ⟨g', 0, none⟩) (l.length + 1) cap') (l.length + 1) (ints (l ++ [(N : Int)]))) := by
    rw [ints, List.map_append]; exact hown'
  clear hb hown' hgrow
  go_wp2
  go_ret
  exact ⟨g', cap', rfl, HO.out, HB.out⟩

end Go.Proofs.YtknmfohipdjlpabGreatDoor
end

section
/- prime.factors of 2 and of 6. -/
set_option linter.unusedSimpArgs false
set_option linter.unusedVariables false
set_option maxRecDepth 100000
namespace Go.Proofs.YtknmfohipdjlpabGreatDoor
open Go.RowKit
attribute [local go_sem] Oper.semAt_some

def FactorsPost (l : List Int) (w : World) (e : Ending) (w' : World) : Prop :=
  ∃ g c, e = .returned (.slice (some ⟨g, 0, none⟩) l.length c) ∧ w'.ownsRow w.heap.size 3 1 (.slice (some ⟨g, 0, none⟩) l.length c) l.length (ints l) ∧ Below w.heap.size w w'

theorem ownsRow_lower {w : World} {B B' e n : Nat} {v : Value} {xs : List Value} (h : w.ownsRow B e 1 v n xs) (hB : B' ≤ B) : w.ownsRow B' e 1 v n xs := by
  obtain ⟨h1, h2⟩ := h
  refine ⟨h1, ?_⟩
  rcases h2 with h3 | ⟨g, cap, cur, h3, h4, h5⟩
  · exact .inl h3
  · exact .inr ⟨g, cap, cur, h3, Nat.le_trans hB h4, h5⟩
theorem ownsRow_put {w : World} {B e n g c l : Nat} {xs : List Value} {o : Obj} (h : w.ownsRow B e 1 (.slice (some ⟨g, 0, none⟩) n c) n xs) (hl : g ≠ l) : (w.putObj l o).ownsRow B e 1 (.slice (some ⟨g, 0, none⟩) n c) n xs :=
  h.kept (grownBy_putObj' w l o) (.inr (by intro e; simp only [Value.ownBlock, Option.some.injEq] at e; exact hl e))

set_option maxHeartbeats 1000000 in
theorem factors_two (w : World) : Calls Tryz.prog 58 #[.int .i64 2] w (FactorsPost [2] w) := by
  refine (callsIn_wide (n := 5)).1 ?_
  refine callsIn_of_wp_marks Tryz.func58 rfl trivial ?_ rfl
  simp only [Tryz.ntmps58, List.size_toArray, List.length_cons, List.length_nil, Nat.reduceAdd, Nat.reduceSub, Array.replicate_succ, Array.replicate_zero, List.push_toArray, List.append_toArray, List.nil_append, List.cons_append]
  gi_wp2
  obtain ⟨W0, hW0⟩ : ∃ W0, W0 = (w.alloc (.cells #[.int .i64 2] 3)).alloc (.cells #[.slice none 0 0] 46) := ⟨_, rfl⟩
  rw [← hW0]
  have z0 : W0.heap.size = w.heap.size + 2 := by rw [hW0]; simp
  have c0 : W0.cell? ⟨w.heap.size, 0, none⟩ = some (.int .i64 2) := by rw [hW0, cell_old_at _ _ _ (by simp), cell_new_at _ _ _ _ _ rfl]; rfl
  have c1 : W0.cell? ⟨w.heap.size + 1, 0, none⟩ = some (.slice none 0 0) := by rw [hW0, cell_new_at _ _ _ _ _ (by simp)]; rfl
  have k0 : Below w.heap.size w W0 := by rw [hW0]; exact ((Below.refl _ _).alloc (Nat.le_refl _) _).alloc (by simp) _
  clear hW0
  refine wpIn_rangeC (F := Fence.wide) (n := 5) rfl (by decide) (gf := 56) rfl trivial (enters_of Tryz.func56 (by kernel_rfl) rfl) (fun _ _ h => h.elim) (rising_two Fence.wide (5 - 1) trivial rfl (by decide)) rfl
    (fun pre W => pre = [] ∧ W.cell? ⟨w.heap.size, 0, none⟩ = some (.int .i64 2) ∧ W.cell? ⟨w.heap.size + 1, 0, none⟩ = some (.slice none 0 0) ∧ Below w.heap.size w W)
    (fun c pre W => c = .exit 0 ∧ W.cell? ⟨w.heap.size, 0, none⟩ = some (.int .i64 2) ∧ W.cell? ⟨w.heap.size + 1, 0, none⟩ = some (.slice none 0 0) ∧ Below w.heap.size w W)
    (AbR.and (AbR.pure _ (fun pre => pre = [])) (AbR.and (AbR.cell _ _ _ _ (by intro h; simp at h; omega)) (AbR.and (AbR.cell _ _ _ _ (by intro h; simp at h; omega)) (AbR.under _ _ _ (Nat.le_refl _) (by intro r h; simp at h; omega)))))
    (fun c => AbR.and (AbR.pure _ (fun _ => c = .exit 0)) (AbR.and (AbR.cell _ _ _ _ (by intro h; simp at h; omega)) (AbR.and (AbR.cell _ _ _ _ (by intro h; simp at h; omega)) (AbR.under _ _ _ (Nat.le_refl _) (by intro r h; simp at h; omega)))))
    ⟨rfl, c0, c1, k0⟩
    (fun x => { tmps := #[.int .i64 2, .pointer (some ⟨w.heap.size, 0, none⟩), .slice none 0 0, .pointer (some ⟨w.heap.size + 1, 0, none⟩), .int .i64 x, .int .i64 x, undef, undef, undef, undef, undef, undef, undef, undef, undef, undef, undef, undef, undef, undef, undef, undef, undef, undef, undef, undef, undef, undef, undef], defers := [] }) ?assign ?body ?hend ?stop
  case assign =>
    intro l x W K hK
    gi_wp2
    exact hK
  case body =>
    rintro l pre x W ⟨rfl, hc, hl, hB⟩ hpre hz
    obtain rfl : x = 2 := by
      obtain ⟨t, ht⟩ := hpre
      simp at ht; exact ht.1
    clear hpre
    gi_wp2
    exact ⟨KB.refl _ _, rfl, hc, hl, hB⟩
  case hend =>
    rintro W ⟨h, _⟩
    cases h
  case stop =>
    rintro c pre W ⟨rfl, hc, hl, hB⟩ hK
    gi_wp2
    refine ⟨trivial, ?_⟩
    have zW : W0.heap.size < W.heap.size := lt_of_some hK
    refine (callsIn_wide.2 (appendGreat_prime 2 (.inl rfl) none 0 W.heap.size [] W (by simp) (Nat.le_refl _) (World.ownsRow_nil _ _ _ _))).mono ?_
    rintro e w1 ⟨g, c', rfl, ho, hb⟩
    have z1 := hb.size
    have hK1 : w1.heap[W0.heap.size]? = some (.deferred (some [])) := (hb.block _ zW).trans hK
    have KB1 : Hid (Below w.heap.size w w1) := hB.trans (hb.mono (by omega))
    have HO : Hid (w1.ownsRow w.heap.size 3 1 (.slice (some ⟨g, 0, none⟩) 1 c') 1 (ints [2])) := ownsRow_lower ho (by omega)
    have hgg := (ho.lt g rfl).1
    clear ho hb hK hB hc hl
    rw [z0] at hK1
    gi_wp2
    refine ⟨by simp, .inl ⟨_, _, rfl, run_takeDeferred hK1, ?_⟩⟩
    refine ⟨.slice (some ⟨g, 0, none⟩) 1 c', by simp [results, Tryz.f58, go_sem], g, c', rfl, ownsRow_put HO.out (by omega), KB1.out.grown (grownBy_putObj' w1 (w.heap.size + 2) (.deferred none)) KB1.out.size (fun k e => by cases e; omega)⟩

end Go.Proofs.YtknmfohipdjlpabGreatDoor
end

section
/- prime.factors of 6. -/
set_option linter.unusedSimpArgs false
set_option linter.unusedVariables false
set_option maxRecDepth 100000
namespace Go.Proofs.YtknmfohipdjlpabGreatDoor
open Go.RowKit
attribute [local go_sem] Oper.semAt_some

theorem AbR.or {R : Nat → Prop} {J K : List Int → World → Prop} (h : AbR R J) (k : AbR R K) : AbR R (fun s W => J s W ∨ K s W) :=
  fun s W W' row hs hg hr => hs.elim (fun x => .inl (h s W W' row x hg hr)) (fun x => .inr (k s W W' row x hg hr))
theorem KB.grown {B : Nat} {x y z : World} (h : KB B x y) (hg : y.grownBy z none) : KB B x z := h.trans ⟨hg.size, fun k _ h2 => hg.block k h2 (fun e => by cases e)⟩

/-- A variable in a block of its own. -/
structure Vr (b : Nat) (v : Value) (W : World) : Prop where
  c : W.cell? ⟨b, 0, none⟩ = some v
  f : W.frozen? ⟨b, 0, none⟩ = false
theorem Vr.lt {b : Nat} {v : Value} {W : World} (h : Vr b v W) : b < W.heap.size := by
  rcases Nat.lt_or_ge b W.heap.size with k | k
  · exact k
  · have h1 := h.c
    simp only [World.cell?, Array.getElem?_eq_none k] at h1; cases h1
theorem Vr.grown {b : Nat} {v : Value} {W W' : World} {row : Option Nat} (h : Vr b v W) (hg : W.grownBy W' row) (hr : row ≠ some b) : Vr b v W' :=
  ⟨hg.cell h.c (fun e => hr e.symm), by rw [World.frozen?_of_block (w := W) (a := ⟨b, 0, none⟩) (hg.block b h.lt (fun e => hr e.symm))]; exact h.f⟩
theorem Vr.set {b : Nat} {v : Value} {W : World} (h : Vr b v W) (u : Value) : Vr b u (W.setCell ⟨b, 0, none⟩ u) :=
  ⟨World.cell?_setCell_same' _ _ _ (by rw [h.c]; rfl), by rw [World.frozen?_setCell]; exact h.f⟩
theorem Vr.other {b b' : Nat} {v : Value} {W : World} (h : Vr b v W) (u : Value) (hne : b ≠ b') : Vr b v (W.setCell ⟨b', 0, none⟩ u) :=
  ⟨by rw [World.cell?_of_block (w := W) (a := ⟨b, 0, none⟩) (Below.heap_setCell W _ u b hne)]; exact h.c, by rw [World.frozen?_of_block (w := W) (a := ⟨b, 0, none⟩) (Below.heap_setCell W _ u b hne)]; exact h.f⟩
theorem AbR.vr (R : Nat → Prop) (b : Nat) (v : Value) (hb : ¬ R b) : AbR R (fun _ W => Vr b v W) :=
  fun s W W' row hs hg hr => hs.grown hg (fun e => hb (hr b e))

/-- Six is not taken apart yet; or 2 is told, and 3 is left. -/
def st6 (h : Nat) (w W : World) : Prop := Vr h (.int .i64 6) W ∧ Vr (h + 1) (.slice none 0 0) W ∧ Below h w W
def st3 (h : Nat) (w W : World) : Prop := Vr h (.int .i64 3) W ∧ (∃ g c, Vr (h + 1) (.slice (some ⟨g, 0, none⟩) 1 c) W ∧ W.ownsRow (h + 4) 3 1 (.slice (some ⟨g, 0, none⟩) 1 c) 1 (ints [2])) ∧ Below h w W

theorem ab_st6 (w : World) : AbR (fun r => r = w.heap.size + 2 + 1 ∨ False) (fun _ W => st6 w.heap.size w W) :=
  AbR.and (AbR.vr _ _ _ (by first | (simp; done) | (simp; omega))) (AbR.and (AbR.vr _ _ _ (by first | (simp; done) | (simp; omega))) (AbR.under _ _ _ (Nat.le_refl _) (by intro r h; simp at h; omega)))
theorem ab_st3 (w : World) : AbR (fun r => r = w.heap.size + 2 + 1 ∨ False) (fun _ W => st3 w.heap.size w W) := by
  rintro s W W' row ⟨h1, ⟨g, c, h2, h3⟩, h4⟩ hg hr
  refine ⟨h1.grown hg (fun e => by rcases hr _ e with h | h <;> omega), ⟨g, c, h2.grown hg (fun e => by rcases hr _ e with h | h <;> omega), h3.kept hg (.inr (fun e => ?_))⟩, h4.grown hg h4.size (fun k e => by have h7 := hr k e; simp at h7; omega)⟩
  have h5 := hr g e.symm
  have h6 := (h3.lt g rfl).1
  rcases h5 with h | h <;> omega

/-- The number that is left, off the world. -/
def leftOf (h : Nat) (W : World) : Nat := match W.cell? ⟨h, 0, none⟩ with
  | some (.int _ q) => q.toNat
  | _ => 0

set_option maxHeartbeats 1000000 in
theorem factors_six (w : World) : Calls Tryz.prog 58 #[.int .i64 6] w (FactorsPost [2, 3] w) := by
  obtain ⟨i0, hi, hz0, hz1, hz2⟩ := info_parts Tryz.infoInt
  have HI : Hid (Tryz.prog.info? 3 = some i0 ∧ i0.zero = some (.int .i64 0) ∧ i0.size = 1 ∧ i0.bytes = 8) := ⟨hi, hz0, hz1, hz2⟩
  clear hi hz0 hz1 hz2
  refine (callsIn_wide (n := 5)).1 ?_
  refine callsIn_of_wp_marks Tryz.func58 rfl trivial ?_ rfl
  simp only [Tryz.ntmps58, List.size_toArray, List.length_cons, List.length_nil, Nat.reduceAdd, Nat.reduceSub, Array.replicate_succ, Array.replicate_zero, List.push_toArray, List.append_toArray, List.nil_append, List.cons_append]
  gi_wp2
  obtain ⟨W0, hW0⟩ : ∃ W0, W0 = (w.alloc (.cells #[.int .i64 6] 3)).alloc (.cells #[.slice none 0 0] 46) := ⟨_, rfl⟩
  rw [← hW0]
  have z0 : W0.heap.size = w.heap.size + 2 := by rw [hW0]; simp
  have v0 : Vr w.heap.size (.int .i64 6) W0 := by
    rw [hW0]; exact ⟨by rw [cell_old_at _ _ _ (by simp), cell_new_at _ _ _ _ _ rfl]; rfl, by rw [frozen_old_at _ _ _ (by simp), frozen_new_at _ _ _ _ _ rfl]⟩
  have v1 : Vr (w.heap.size + 1) (.slice none 0 0) W0 := by
    rw [hW0]; exact ⟨by rw [cell_new_at _ _ _ _ _ (by simp)]; rfl, by rw [frozen_new_at _ _ _ _ _ (by simp)]⟩
  have k0 : Below w.heap.size w W0 := by rw [hW0]; exact ((Below.refl _ _).alloc (Nat.le_refl _) _).alloc (by simp) _
  clear hW0
  refine wpIn_rangeC (F := Fence.wide) (n := 5) rfl (by decide) (gf := 56) rfl trivial (enters_of Tryz.func56 (by kernel_rfl) rfl) (fun _ _ h => h.elim) (rising_two Fence.wide (5 - 1) trivial rfl (by decide)) rfl
    (fun pre W => (pre = [] ∧ st6 w.heap.size w W) ∨ (pre = [2] ∧ st3 w.heap.size w W))
    (fun c pre W => c = .exit 0 ∧ st3 w.heap.size w W)
    (by rw [z0]; exact AbR.or (AbR.and (AbR.pure _ (fun pre => pre = [])) (ab_st6 w)) (AbR.and (AbR.pure _ (fun pre => pre = [2])) (ab_st3 w)))
    (fun c => by rw [z0]; exact AbR.and (AbR.pure _ (fun _ => c = .exit 0)) (ab_st3 w))
    (.inl ⟨rfl, v0, v1, k0⟩)
    (fun x => { tmps := #[.int .i64 6, .pointer (some ⟨w.heap.size, 0, none⟩), .slice none 0 0, .pointer (some ⟨w.heap.size + 1, 0, none⟩), .int .i64 x, .int .i64 x, undef, undef, undef, undef, undef, undef, undef, undef, undef, undef, undef, undef, undef, undef, undef, undef, undef, undef, undef, undef, undef, undef, undef], defers := [] }) ?assign ?body ?hend ?stop
  case assign =>
    intro l x W K hK
    gi_wp2
    exact hK
  case body =>
    rintro l pre x W (⟨rfl, hs⟩ | ⟨rfl, hs⟩) hpre hz
    · obtain rfl : x = 2 := by
        obtain ⟨t, ht⟩ := hpre
        simp at ht; exact ht.1
      have hc := hs.1.c
      have HS : Hid (st6 w.heap.size w W) := hs
      clear hpre hs
      gi_wp2
      gi_loopw [15] (fun _ wx => Hid ((st6 w.heap.size w wx ∨ st3 w.heap.size w wx) ∧ KB W0.heap.size W wx)) (fun _ wx => leftOf w.heap.size wx)
      case atStart => exact ⟨.inl HS.out, KB.refl _ _⟩
      case round =>
        have HR := hrel
        clear hrel
        rcases HR.out.1 with ⟨h1, h2, h3⟩ | ⟨h1, ⟨g, c, h2, h3⟩, h4⟩
        · have q1 := h1.c
          have q2 := h2.c
          have q3 := h1.f
          have q4 := h2.f
          have zk := HR.out.2.size
          have KB2 : Hid (KB W0.heap.size W wr) := HR.out.2
          have V1 : Hid (Vr w.heap.size (.int .i64 6) wr) := h1
          have V2 : Hid (Vr (w.heap.size + 1) (.slice none 0 0) wr) := h2
          have B3 : Hid (Below w.heap.size w wr) := h3
          have HL : Hid (leftOf w.heap.size wr = 6) := by show _ = _; unfold leftOf; rw [q1]; rfl
          clear h1 h2 h3 HR hc
          gi_wp2_with (gi_at_builtin; refine wpListIn_append_own _ rfl _ _ 46 rfl (w.heap.size + 4) 3 i0 (.int .i64 0) 1 8 Tryz.underlying46 HI.out.1 HI.out.2.1 HI.out.2.2.1 HI.out.2.2.2 rfl (by decide) (.slice none 0 0) 0 [] rfl (World.ownsRow_nil _ _ _ _) ⟨wr.heap.size, 0, none⟩ 1 1 [.int .i64 2] rfl rfl (cell_one_new _ _ _) (by simp [Value.oneCell']) (by simp only [maxLen]; omega) (by omega) (by simp; omega) ?_; intro v' w1 hown' hgrow _; obtain ⟨g', cap', rfl⟩ := ownsRow_succ hown'; have A1 : Vr w.heap.size (.int .i64 6) w1 := (V1.out.grown (World.grownBy_alloc _ _ none) (by simp)).grown hgrow (by simp [Value.ownBlock]); have A2 : Vr (w.heap.size + 1) (.slice none 0 0) w1 := (V2.out.grown (World.grownBy_alloc _ _ none) (by simp)).grown hgrow (by simp [Value.ownBlock]); have r1 := A1.c; have r2 := A2.c; have r3 := A1.f; have r4 := A2.f)
          have C1 : Vr w.heap.size (.int .i64 3) ((w1.setCell ⟨w.heap.size + 1, 0, none⟩ (.slice (some ⟨g', 0, none⟩) 1 cap')).setCell ⟨w.heap.size, 0, none⟩ (.int .i64 3)) := (A1.other _ (by omega)).set _
          have C2 : Vr (w.heap.size + 1) (.slice (some ⟨g', 0, none⟩) 1 cap') ((w1.setCell ⟨w.heap.size + 1, 0, none⟩ (.slice (some ⟨g', 0, none⟩) 1 cap')).setCell ⟨w.heap.size, 0, none⟩ (.int .i64 3)) := (A2.set _).other _ (by omega)
          refine ⟨⟨.inr ⟨C1, ⟨g', cap', C2, ownsRow_setCell_below (ownsRow_setCell_below hown' (by show w.heap.size + 1 < _; omega) _) (by show w.heap.size < _; omega) _⟩, ?_⟩, ?_⟩, ?_⟩
          · exact (((B3.out.alloc B3.out.size _).grown hgrow (by simp; have := B3.out.size; omega) (fun k e => by simp [Value.ownBlock] at e)).setCell (by simp) _).setCell (by simp) _
          · exact (((KB2.out.alloc _).grown (by simpa [Value.ownBlock] using hgrow)).setCell (by show w.heap.size + 1 < _; omega) _).setCell (by show w.heap.size < _; omega) _
          · rw [HL.out]; unfold leftOf; rw [C1.c]; decide
        · have q1 := h1.c
          have KB2 : Hid (KB W0.heap.size W wr) := HR.out.2
          have HST : Hid (st3 w.heap.size w wr) := ⟨h1, ⟨g, c, h2, h3⟩, h4⟩
          clear h1 h2 h3 h4 HR
          gi_wp2
          exact ⟨KB2.out, .inr ⟨rfl, HST.out⟩⟩
    · obtain rfl : x = 3 := by
        obtain ⟨t, ht⟩ := hpre
        simp at ht; exact ht.1
      have hc := hs.1.c
      have HS : Hid (st3 w.heap.size w W) := hs
      clear hpre hs
      gi_wp2
      exact ⟨KB.refl _ _, rfl, HS.out⟩
  case hend =>
    rintro W (⟨h, _⟩ | ⟨h, _⟩) <;> cases h
  case stop =>
    rintro c pre W ⟨rfl, h1, ⟨g, c, h2, h3⟩, hB⟩ hK
    have q1 := h1.c
    have q2 := h2.c
    have zW : W0.heap.size < W.heap.size := lt_of_some hK
    have hg4 := (h3.lt g rfl).1
    have HRow : Hid (W.ownsRow (w.heap.size + 4) 3 1 (.slice (some ⟨g, 0, none⟩) 1 c) 1 (ints [2])) := h3
    have HB : Hid (Below w.heap.size w W) := hB
    have HK : Hid (W.heap[W0.heap.size]? = some (.deferred (some []))) := hK
    have hz4 : w.heap.size + 4 ≤ W.heap.size := by have := (h3.lt g rfl).2; omega
    clear h1 h2 h3 hB hK
    gi_wp2
    refine ⟨trivial, ?_⟩
    refine (callsIn_wide.2 (appendGreat_prime 3 (.inr (.inl rfl)) (some ⟨g, 0, none⟩) c (w.heap.size + 4) [2] W (by simp) hz4 HRow.out)).mono ?_
    rintro e w1 ⟨g1, c', rfl, ho, hb⟩
    have z1 := hb.size
    have hK1 : w1.heap[W0.heap.size]? = some (.deferred (some [])) := (hb.block _ (by omega)).trans HK.out
    have KB1 : Hid (Below w.heap.size w w1) := HB.out.trans (hb.mono (by omega))
    have HO : Hid (w1.ownsRow w.heap.size 3 1 (.slice (some ⟨g1, 0, none⟩) 2 c') 2 (ints [2, 3])) := ownsRow_lower ho (by omega)
    have hgg := (ho.lt g1 rfl).1
    clear ho hb
    rw [z0] at hK1
    gi_wp2
    refine ⟨by simp, .inl ⟨_, _, rfl, run_takeDeferred hK1, ?_⟩⟩
    refine ⟨.slice (some ⟨g1, 0, none⟩) 2 c', by simp [results, Tryz.f58, go_sem], g1, c', rfl, ownsRow_put HO.out (by omega), KB1.out.grown (grownBy_putObj' w1 (w.heap.size + 2) (.deferred none)) KB1.out.size (fun k e => by cases e; omega)⟩

end Go.Proofs.YtknmfohipdjlpabGreatDoor
end

section
/- slices.Sort of one number, and of two that are in order. -/
set_option linter.unusedSimpArgs false
set_option linter.unusedVariables false
set_option maxRecDepth 100000
namespace Go.Proofs.YtknmfohipdjlpabGreatDoor
open Go.RowKit

theorem Less_any (x y : Int) (w : World) :
    Calls Tryz.prog 86 #[.int .i64 x, .int .i64 y] w fun e w' => e = .returned (.bool (decide (x < y))) ∧ ∃ q, w' = w.drewN q := by
  have h1 : (x != x) = false := by simp
  go_enter Tryz.func86, Tryz.ntmps86
  go_wp2
  go_ret
  exact ⟨rfl, 0, rfl⟩

theorem Len_any (x : Int) (w : World) (h0 : 0 ≤ x) (h1 : x ≤ 100) :
    Calls Tryz.prog 71 #[.int .u64 x] w fun e w' => e = .returned (.int .i64 (Lib.bitLen x.toNat)) ∧ w' = w := by
  go_enter Tryz.func71, Tryz.ntmps71
  go_wp2_with fail
  refine (Len64_int x w h0 (by omega)).mono ?_
  rintro e w' ⟨rfl, rfl⟩
  go_wp2
  go_ret
  exact ⟨rfl, rfl⟩

set_option maxHeartbeats 1000000 in
theorem insertion_two (g c : Nat) (x y : Int) (w : World) (hc : 2 ≤ c) (h0 : w.cell? ⟨g, 0, none⟩ = some (.int .i64 x)) (h1 : w.cell? ⟨g, 1, none⟩ = some (.int .i64 y)) (hxy : x ≤ y) (hg : g < w.heap.size) :
    Calls Tryz.prog 80 #[.slice (some ⟨g, 0, none⟩) 2 c, .int .i64 0, .int .i64 2] w fun e w' => (∃ v, e = .returned v) ∧ Below w.heap.size w w' := by
  go_enter Tryz.func80, Tryz.ntmps80
  go_wp2
  go_loopw [6] (fun iv wx => ∃ i : Nat, iv = .int .i64 i ∧ 1 ≤ i ∧ i ≤ 2 ∧ Hid (Below w.heap.size w wx)) (fun iv _ => 2 - (intOf iv).toNat)
  case atStart => exact ⟨1, rfl, by omega, by omega, Below.refl _ _⟩
  case round =>
    obtain ⟨i, rfl, hi1, hi2, HB⟩ := hrel
    rcases (show i = 1 ∨ i = 2 by omega) with rfl | rfl
    · obtain ⟨wo, hwo⟩ : ∃ wo, wo = wr := ⟨_, rfl⟩
      subst hwo
      have d0 : wo.cell? ⟨g, 0, none⟩ = some (.int .i64 x) := (HB.out.cell (p := ⟨g, 0, none⟩) hg).trans h0
      have d1 : wo.cell? ⟨g, 1, none⟩ = some (.int .i64 y) := (HB.out.cell (p := ⟨g, 1, none⟩) hg).trans h1
      have hlt : decide (y < x) = false := decide_eq_false (by omega)
      clear h0 h1 hi1 hi2
      go_wp2
      go_loopw [7] (fun jv wx => jv = .int .i64 1 ∧ Hid (wx = wo)) (fun _ _ => 0)
      case atStart => exact ⟨rfl, rfl⟩
      case round =>
        obtain ⟨rfl, HW⟩ := hrel
        have hw := HW.out
        subst hw
        clear HW
        go_wp2
        go_quiet ((go_at_call 86; exact Calls.quiet_of (Less_any y x _)))
        go_wp2
        go_roundw
        case rel => exact ⟨2, rfl, by omega, by omega, below_drewN' HB.out⟩
        case measure => simp [intOf]
    · go_wp2
      go_end0
      exact ⟨⟨_, rfl⟩, HB.out⟩

theorem insertion_one (g c : Nat) (w : World) :
    Calls Tryz.prog 80 #[.slice (some ⟨g, 0, none⟩) 1 c, .int .i64 0, .int .i64 1] w fun e w' => (∃ v, e = .returned v) ∧ Below w.heap.size w w' := by
  go_enter Tryz.func80, Tryz.ntmps80
  go_wp2
  go_loopw [6] (fun iv wx => iv = .int .i64 1 ∧ Hid (Below w.heap.size w wx)) (fun iv _ => 0)
  case atStart => exact ⟨rfl, Below.refl _ _⟩
  case round =>
    obtain ⟨rfl, HB⟩ := hrel
    go_wp2
    go_end0
    exact ⟨⟨_, rfl⟩, HB.out⟩

end Go.Proofs.YtknmfohipdjlpabGreatDoor
end

section
/- slices.Sort of one number, and of two that are in order. -/
set_option linter.unusedSimpArgs false
set_option linter.unusedVariables false
set_option maxRecDepth 100000
namespace Go.Proofs.YtknmfohipdjlpabGreatDoor
open Go.RowKit

set_option maxHeartbeats 1000000 in
theorem pdq_one (g c : Nat) (lim : Int) (w : World) :
    Calls Tryz.prog 70 #[.slice (some ⟨g, 0, none⟩) 1 c, .int .i64 0, .int .i64 1, .int .i64 lim] w fun e w' => (∃ v, e = .returned v) ∧ Below w.heap.size w w' := by
  go_enter Tryz.func70, Tryz.ntmps70
  go_wp2
  go_loopw [1, 2, 3, 8, 9] (fun av bv lv x1 x2 wx => av = .int .i64 0 ∧ bv = .int .i64 1 ∧ lv = .int .i64 lim ∧ x1 = .bool true ∧ x2 = .bool true ∧ Hid (wx = w)) (fun _ _ _ _ _ _ => 0)
  case atStart => exact ⟨rfl, rfl, rfl, rfl, rfl, rfl⟩
  case round =>
    obtain ⟨rfl, rfl, rfl, rfl, rfl, HW⟩ := hrel
    have hw := HW.out
    subst hw
    clear HW
    go_wp2_with fail
    refine (insertion_one g c wr).mono ?_
    rintro e w1 ⟨⟨v, rfl⟩, k1⟩
    have K1 : Hid (Below wr.heap.size wr w1) := k1
    clear k1
    go_wp2
    exact bodyPost_ret (results_none rfl _ _ _) rfl ⟨⟨_, rfl⟩, K1.out⟩

theorem Sort_one (g c : Nat) (w : World) :
    Calls Tryz.prog 59 #[.slice (some ⟨g, 0, none⟩) 1 c] w fun e w' => (∃ v, e = .returned v) ∧ Below w.heap.size w w' := by
  go_enter Tryz.func59, Tryz.ntmps59
  go_wp2_with fail
  refine (Len_any 1 w (by omega) (by omega)).mono ?_
  rintro e w1 ⟨rfl, rfl⟩
  obtain ⟨lim, hlim⟩ : ∃ lim : Int, lim = (Lib.bitLen (Int.toNat 1) : Int) := ⟨_, rfl⟩
  rw [← hlim]
  clear hlim
  go_wp2_with fail
  refine (pdq_one g c lim w1).mono ?_
  rintro e w2 ⟨⟨v, rfl⟩, k2⟩
  have K2 : Hid (Below w1.heap.size w1 w2) := k2
  clear k2
  go_wp2
  go_end0
  exact ⟨⟨_, rfl⟩, K2.out⟩

set_option maxHeartbeats 1000000 in
theorem pdq_two (g c : Nat) (x y : Int) (lim : Int) (w : World) (hc : 2 ≤ c) (h0 : w.cell? ⟨g, 0, none⟩ = some (.int .i64 x)) (h1 : w.cell? ⟨g, 1, none⟩ = some (.int .i64 y)) (hxy : x ≤ y) (hg : g < w.heap.size) :
    Calls Tryz.prog 70 #[.slice (some ⟨g, 0, none⟩) 2 c, .int .i64 0, .int .i64 2, .int .i64 lim] w fun e w' => (∃ v, e = .returned v) ∧ Below w.heap.size w w' := by
  go_enter Tryz.func70, Tryz.ntmps70
  go_wp2
  go_loopw [1, 2, 3, 8, 9] (fun av bv lv x1 x2 wx => av = .int .i64 0 ∧ bv = .int .i64 2 ∧ lv = .int .i64 lim ∧ x1 = .bool true ∧ x2 = .bool true ∧ Hid (wx = w)) (fun _ _ _ _ _ _ => 0)
  case atStart => exact ⟨rfl, rfl, rfl, rfl, rfl, rfl⟩
  case round =>
    obtain ⟨rfl, rfl, rfl, rfl, rfl, HW⟩ := hrel
    have hw := HW.out
    subst hw
    clear HW
    go_wp2_with fail
    refine (insertion_two g c x y wr hc h0 h1 hxy hg).mono ?_
    rintro e w1 ⟨⟨v, rfl⟩, k1⟩
    have K1 : Hid (Below wr.heap.size wr w1) := k1
    clear k1
    go_wp2
    exact bodyPost_ret (results_none rfl _ _ _) rfl ⟨⟨_, rfl⟩, K1.out⟩

theorem Sort_two (g c : Nat) (x y : Int) (w : World) (hc : 2 ≤ c) (h0 : w.cell? ⟨g, 0, none⟩ = some (.int .i64 x)) (h1 : w.cell? ⟨g, 1, none⟩ = some (.int .i64 y)) (hxy : x ≤ y) (hg : g < w.heap.size) :
    Calls Tryz.prog 59 #[.slice (some ⟨g, 0, none⟩) 2 c] w fun e w' => (∃ v, e = .returned v) ∧ Below w.heap.size w w' := by
  go_enter Tryz.func59, Tryz.ntmps59
  go_wp2_with fail
  refine (Len_any 2 w (by omega) (by omega)).mono ?_
  rintro e w1 ⟨rfl, rfl⟩
  obtain ⟨lim, hlim⟩ : ∃ lim : Int, lim = (Lib.bitLen (Int.toNat 2) : Int) := ⟨_, rfl⟩
  rw [← hlim]
  clear hlim
  go_wp2_with fail
  refine (pdq_two g c x y lim w1 hc h0 h1 hxy hg).mono ?_
  rintro e w2 ⟨⟨v, rfl⟩, k2⟩
  have K2 : Hid (Below w1.heap.size w1 w2) := k2
  clear k2
  go_wp2
  go_end0
  exact ⟨⟨_, rfl⟩, K2.out⟩

end Go.Proofs.YtknmfohipdjlpabGreatDoor
end

section
/- prime.tally of 2, and of 2 and 3. -/
set_option linter.unusedSimpArgs false
set_option linter.unusedVariables false
set_option maxRecDepth 100000
namespace Go.Proofs.YtknmfohipdjlpabGreatDoor
open Go.RowKit

theorem Tryz.infoPower : (Tryz.prog.info? 68).map (fun i => (i.zero, i.size, i.bytes)) = some (some (.agg #[.int .i64 0, .int .i64 0]), 2, 16) := by kernel_rfl

/-- Each once. -/
def once : List Int → List Value
  | [] => []
  | p :: t => .int .i64 p :: .int .i64 1 :: once t
theorem once_append (x y : List Int) : once (x ++ y) = once x ++ once y := by
  induction x with
  | nil => rfl
  | cons p t ih => simp only [List.cons_append, once, ih]

theorem once_at : ∀ (l : List Int) (i : Nat), i < l.length → (once l)[i * 2]? = some (.int .i64 (l.getD i 0)) := by
  intro l
  induction l with
  | nil => intro i h; simp at h
  | cons p t ih =>
    intro i h
    cases i with
    | zero => rfl
    | succ i =>
      have := ih i (by simpa using h)
      simp only [once, show (i + 1) * 2 = i * 2 + 1 + 1 by omega, List.getElem?_cons_succ]
      rw [this]; simp

def TallyPost (l : List Int) (w : World) (e : Ending) (w' : World) : Prop :=
  ∃ g c, e = .returned (.slice (some ⟨g, 0, none⟩) l.length c) ∧ w'.ownsRow w.heap.size 68 2 (.slice (some ⟨g, 0, none⟩) l.length c) l.length (once l) ∧ Below w.heap.size w w'

/-- Numbers that rise. -/
def risingL (l : List Int) : Prop := ∀ i, i + 1 < l.length → l.getD i 0 < l.getD (i + 1) 0

set_option maxHeartbeats 1000000 in
theorem tally_any (l : List Int) (g c : Nat) (w : World) (hl0 : 0 < l.length) (hl : l.length ≤ 50) (hlc : l.length ≤ c) (hr : risingL l) (hg : g < w.heap.size)
    (hcell : ∀ j, j < l.length → w.cell? ⟨g, j, none⟩ = some (.int .i64 (l.getD j 0))) :
    Calls Tryz.prog 60 #[.slice (some ⟨g, 0, none⟩) l.length c] w (TallyPost l w) := by
  obtain ⟨i0, hi, hz0, hz1, hz2⟩ := info_parts Tryz.infoPower
  have HI : Hid (Tryz.prog.info? 68 = some i0 ∧ i0.zero = some (.agg #[.int .i64 0, .int .i64 0]) ∧ i0.size = 2 ∧ i0.bytes = 16) := ⟨hi, hz0, hz1, hz2⟩
  have HC : Hid (∀ j, j < l.length → w.cell? ⟨g, j, none⟩ = some (.int .i64 (l.getD j 0))) := hcell
  have HR : Hid (risingL l) := hr
  clear hi hz0 hz1 hz2 hcell hr
  go_enter Tryz.func60, Tryz.ntmps60
  go_wp2
  go_loopw [3, 9] (fun av iv wx => ∃ (i : Nat) (a : Option Addr) (ac : Nat), i ≤ l.length ∧ av = .slice a i ac ∧ iv = .int .i64 i ∧ i ≤ ac ∧ Hid (Below w.heap.size w wx ∧ wx.ownsRow w.heap.size 68 2 (.slice a i ac) i (once (l.take i)))) (fun _ iv _ => l.length - (intOf iv).toNat)
  case atStart => exact ⟨0, none, 0, Nat.zero_le _, rfl, rfl, Nat.le_refl _, Below.refl _ _, World.ownsRow_nil _ _ _ _⟩
  case round =>
    obtain ⟨i, a, ac, hi1, rfl, rfl, hia, HRel⟩ := hrel
    have zr := HRel.out.1.size
    by_cases hlt : i < l.length
    · have hc1 : wr.cell? ⟨g, i, none⟩ = some (.int .i64 (l.getD i 0)) := (HRel.out.1.cell (p := ⟨g, i, none⟩) hg).trans (HC.out i hlt)
      obtain ⟨p, hp⟩ : ∃ p, p = l.getD i 0 := ⟨_, rfl⟩
      rw [← hp] at hc1
      have HP : Hid (p = l.getD i 0) := hp
      have HT : Hid (l.take (i + 1) = l.take i ++ [p]) := by
        show _ = _
        rw [List.take_succ_eq_append_getElem hlt, hp, List.getD_eq_getElem?_getD, List.getElem?_eq_getElem hlt]; rfl
      have HROW : Hid (wr.ownsRow w.heap.size 68 2 (.slice a i ac) i (once (l.take i))) := HRel.out.2
      have HBel : Hid (Below w.heap.size w wr) := HRel.out.1
      clear hp HRel
      cases i with
      | zero =>
        go_wp2_with (at_builtin; refine wpList_append_own _ rfl _ _ 63 rfl w.heap.size 68 i0 (.agg #[.int .i64 0, .int .i64 0]) 2 16 Tryz.underlying63 HI.out.1 HI.out.2.1 HI.out.2.2.1 HI.out.2.2.2 rfl (by decide) (.slice a 0 ac) 0 (once (l.take 0)) rfl (HROW.out.alloc _) ⟨wr.heap.size, 0, none⟩ 1 1 [.int .i64 p, .int .i64 1] rfl rfl (cell_two_new _ _ _ _) (by simp [Value.oneCell']) (by simp only [maxLen]; omega) (by omega) (by simp; omega) ?_; intro v' w1 hown' hgrow _; obtain ⟨g', cap', rfl⟩ := ownsRow_succ hown')
        have hb1 : Below w.heap.size w w1 := (HBel.out.alloc zr _).grown hgrow (by simp; omega) (fun k e => (HROW.out.lt k e).1)
        have ho1 : w1.ownsRow w.heap.size 68 2 (.slice (some ⟨g', 0, none⟩) (0 + 1) cap') (0 + 1) (once (l.take (0 + 1))) := by
          rw [HT.out, once_append]; exact hown'
        have hcap : 0 + 1 ≤ cap' := by
          rcases ho1.2 with ⟨h, _⟩ | ⟨_, _, _, h, _, _, h4, _⟩
          · cases h
          · cases h; exact h4
        have HB1 : Hid (Below w.heap.size w w1) := hb1
        have HO1 : Hid (w1.ownsRow w.heap.size 68 2 (.slice (some ⟨g', 0, none⟩) (0 + 1) cap') (0 + 1) (once (l.take (0 + 1)))) := ho1
        clear hb1 ho1 hown' hgrow
        go_wp2
        go_roundw
        case rel => exact ⟨0 + 1, some ⟨g', 0, none⟩, cap', by omega, rfl, by go_num, hcap, HB1.out, HO1.out⟩
        case measure => simp [intOf]; omega
      | succ m =>
        obtain ⟨ga, rfl⟩ : ∃ ga, a = some ⟨ga, 0, none⟩ := by
          rcases HROW.out.2 with ⟨_, h0⟩ | ⟨ga, _, _, h1, _⟩
          · omega
          · simp only [Value.slice.injEq] at h1; exact ⟨ga, h1.1⟩
        obtain ⟨q, hq⟩ : ∃ q, q = l.getD m 0 := ⟨_, rfl⟩
        have hq1 : wr.cell? ⟨ga, m * 2, none⟩ = some (.int .i64 q) := by
          have e : (l.take (m + 1)).getD m 0 = l.getD m 0 := by
            rw [List.getD_eq_getElem?_getD, List.getElem?_take_of_lt (by omega), ← List.getD_eq_getElem?_getD]
          rw [HROW.out.cellAt (m * 2) (by omega), once_at _ m (by rw [List.length_take]; omega), hq, e]
        have hqp : (q == p) = false := beq_eq_false_iff_ne.2 (by
          have h := HR.out m (by omega)
          rw [HP.out, hq]; omega)
        clear hq
        go_wp2_with (at_builtin; refine wpList_append_own _ rfl _ _ 63 rfl w.heap.size 68 i0 (.agg #[.int .i64 0, .int .i64 0]) 2 16 Tryz.underlying63 HI.out.1 HI.out.2.1 HI.out.2.2.1 HI.out.2.2.2 rfl (by decide) (.slice (some ⟨ga, 0, none⟩) (m + 1) ac) (m + 1) (once (l.take (m + 1))) rfl (HROW.out.alloc _) ⟨wr.heap.size, 0, none⟩ 1 1 [.int .i64 p, .int .i64 1] rfl rfl (cell_two_new _ _ _ _) (by simp [Value.oneCell']) (by simp only [maxLen]; omega) (by omega) (by simp; omega) ?_; intro v' w1 hown' hgrow _; obtain ⟨g', cap', rfl⟩ := ownsRow_succ hown')
        have hb1 : Below w.heap.size w w1 := (HBel.out.alloc zr _).grown hgrow (by simp; omega) (fun k e => (HROW.out.lt k e).1)
        have ho1 : w1.ownsRow w.heap.size 68 2 (.slice (some ⟨g', 0, none⟩) ((m + 1) + 1) cap') ((m + 1) + 1) (once (l.take ((m + 1) + 1))) := by
          rw [HT.out, once_append]; exact hown'
        have hcap : (m + 1) + 1 ≤ cap' := by
          rcases ho1.2 with ⟨h, _⟩ | ⟨_, _, _, h, _, _, h4, _⟩
          · cases h
          · cases h; exact h4
        have HB1 : Hid (Below w.heap.size w w1) := hb1
        have HO1 : Hid (w1.ownsRow w.heap.size 68 2 (.slice (some ⟨g', 0, none⟩) ((m + 1) + 1) cap') ((m + 1) + 1) (once (l.take ((m + 1) + 1)))) := ho1
        clear hb1 ho1 hown' hgrow
        go_wp2
        go_roundw
        case rel => exact ⟨(m + 1) + 1, some ⟨g', 0, none⟩, cap', by omega, rfl, by go_num, hcap, HB1.out, HO1.out⟩
        case measure => simp [intOf]; omega
    · obtain rfl : i = l.length := by omega
      go_wp2
      go_ret
      have h := HRel.out.2
      rw [List.take_length] at h
      obtain ⟨g', hg'⟩ : ∃ g', a = some ⟨g', 0, none⟩ := by
        rcases h.2 with ⟨_, h0⟩ | ⟨g', _, _, h1, _⟩
        · omega
        · simp only [Value.slice.injEq] at h1; exact ⟨g', h1.1⟩
      subst hg'
      exact ⟨g', ac, rfl, h, HRel.out.1⟩

end Go.Proofs.YtknmfohipdjlpabGreatDoor
end

section
/- prime.Factor of 2 and of 6; prime.Is of 7; cert.root of 3 and of 7. -/
set_option linter.unusedSimpArgs false
set_option linter.unusedVariables false
set_option maxRecDepth 100000
namespace Go.Proofs.YtknmfohipdjlpabGreatDoor
open Go.RowKit

def FactorPost (l : List Int) (w : World) (e : Ending) (w' : World) : Prop :=
  ∃ g c, e = .returned (.tuple #[.slice (some ⟨g, 0, none⟩) l.length c, .agg #[.int .i64 0, .int .i64 0]]) ∧ w'.ownsRow w.heap.size 68 2 (.slice (some ⟨g, 0, none⟩) l.length c) l.length (once l) ∧ Below w.heap.size w w'

set_option maxHeartbeats 1000000 in
theorem Factor_of (N : Int) (l : List Int) (hN1 : 1 ≤ N) (hN2 : N ≤ 1000) (hl0 : 0 < l.length) (hl : l.length ≤ 50) (hr : risingL l) (hf : ∀ w, Calls Tryz.prog 58 #[.int .i64 N] w (FactorsPost l w))
    (hs : ∀ g c w, l.length ≤ c → g < w.heap.size → (∀ j, j < l.length → w.cell? ⟨g, j, none⟩ = some (.int .i64 (l.getD j 0))) → Calls Tryz.prog 59 #[.slice (some ⟨g, 0, none⟩) l.length c] w fun e w' => (∃ v, e = .returned v) ∧ Below w.heap.size w w') (w : World) :
    Calls Tryz.prog 37 #[.int .i64 N] w (FactorPost l w) := by
  have HF : Hid (∀ w, Calls Tryz.prog 58 #[.int .i64 N] w (FactorsPost l w)) := hf
  have HSo : Hid (∀ g c w, l.length ≤ c → g < w.heap.size → (∀ j, j < l.length → w.cell? ⟨g, j, none⟩ = some (.int .i64 (l.getD j 0))) → Calls Tryz.prog 59 #[.slice (some ⟨g, 0, none⟩) l.length c] w fun e w' => (∃ v, e = .returned v) ∧ Below w.heap.size w w') := hs
  have HR : Hid (risingL l) := hr
  clear hf hs hr
  go_enter Tryz.func37, Tryz.ntmps37
  go_wp2_with fail
  refine (HF.out _).mono ?_
  rintro e w1 ⟨g, c, rfl, row, k1⟩
  have z1 := k1.size
  simp at z1
  have S1 : Hid (Sv w.heap.size 0 0 w1) := (Sv.new 0 0 w).below k1
  have hlc : l.length ≤ c := by
    rcases row.2 with ⟨h, _⟩ | ⟨_, _, _, h, _, _, h4, _⟩
    · cases h
    · cases h; exact h4
  have hg := row.lt g rfl
  have HCell : Hid (∀ j, j < l.length → w1.cell? ⟨g, j, none⟩ = some (.int .i64 (l.getD j 0))) := by
    intro j hj
    rw [row.cellAt j (by omega), ints, List.getElem?_map, List.getD_eq_getElem?_getD, List.getElem?_eq_getElem hj]; rfl
  have K1 : Hid (Below w.heap.size w w1) := ((Below.refl _ _).alloc (Nat.le_refl _) _).trans (k1.mono (by simp))
  simp at hg
  clear row k1
  go_wp2_with fail
  refine (HSo.out g c w1 hlc hg.2 HCell.out).mono ?_
  rintro e w2 ⟨⟨v, rfl⟩, k2⟩
  have z2 := k2.size
  have S2 : Hid (Sv w.heap.size 0 0 w2) := S1.out.below k2
  have HCell2 : Hid (∀ j, j < l.length → w2.cell? ⟨g, j, none⟩ = some (.int .i64 (l.getD j 0))) := fun j hj => (k2.cell (p := ⟨g, j, none⟩) hg.2).trans (HCell.out j hj)
  have K2 : Hid (Below w.heap.size w w2) := K1.out.trans (k2.mono (by omega))
  clear k2 S1 HCell K1
  go_wp2_with fail
  refine (tally_any l g c w2 hl0 hl hlc HR.out (by omega) HCell2.out).mono ?_
  rintro e w3 ⟨g3, c3, rfl, row3, k3⟩
  have S3 := S2.out.below k3
  have q0 := S3.c0
  have q1 := S3.c1
  have q2 := S3.f0
  have q3 := S3.f1
  have q4 := S3.lt
  have z3 := k3.size
  have K3 : Hid (Below w.heap.size w w3) := K2.out.trans (k3.mono (by omega))
  have HRow : Hid (w3.ownsRow w2.heap.size 68 2 (.slice (some ⟨g3, 0, none⟩) l.length c3) l.length (once l)) := row3
  clear S3 row3 k3 S2 K2 HCell2
  go_wp2
  refine bodyPost_ret (v := .tuple #[.slice (some ⟨g3, 0, none⟩) l.length c3, .agg #[.int .i64 0, .int .i64 0]]) (by simp [results, Tryz.results37, go_sem, q0, q1, q4]) rfl ?_
  refine ⟨g3, c3, rfl, ?_, (K3.out.setCell (by simp) _).setCell (by simp) _⟩
  have hlow : w3.ownsRow w2.heap.size 68 2 (.slice (some ⟨g3, 0, none⟩) l.length c3) l.length (once l) := HRow.out
  have h5 := ownsRow_setCell_below (ownsRow_setCell_below hlow (a := ⟨w.heap.size, 0, none⟩) (by show w.heap.size < _; omega) (.int .i64 0)) (a := ⟨w.heap.size, 1, none⟩) (by show w.heap.size < _; omega) (.int .i64 0)
  obtain ⟨h6, h7⟩ := h5
  refine ⟨h6, ?_⟩
  rcases h7 with h8 | ⟨g9, cap, cur, h9, h10, h11⟩
  · exact .inl h8
  · exact .inr ⟨g9, cap, cur, h9, by omega, h11⟩

theorem rising23 : risingL [2, 3] := by
  intro i h
  have h1 : i + 1 < 2 := h
  have h2 : i = 0 := by omega
  subst h2
  decide

theorem Factor_two (w : World) : Calls Tryz.prog 37 #[.int .i64 2] w (FactorPost [2] w) :=
  Factor_of 2 [2] (by omega) (by omega) (by decide) (by decide) (by intro i h; simp at h) factors_two (fun g c w _ _ _ => Sort_one g c w) w
theorem Factor_six (w : World) : Calls Tryz.prog 37 #[.int .i64 6] w (FactorPost [2, 3] w) :=
  Factor_of 6 [2, 3] (by omega) (by omega) (by decide) (by decide) rising23 factors_six (fun g c w hc hg h => Sort_two g c 2 3 w hc (h 0 (by decide)) (h 1 (by decide)) (by decide) hg) w

end Go.Proofs.YtknmfohipdjlpabGreatDoor
end
