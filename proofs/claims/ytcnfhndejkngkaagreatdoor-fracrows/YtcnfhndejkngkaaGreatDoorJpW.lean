import Derived.Test.YtcnfhndejkngkaaGreatDoorJpK
import Derived.Test.YtcnfhndejkngkaaGreatDoorJpV
import Derived.Test.YtcnfhndejkngkaaGreatDoorJpQ
import Derived.Sort.LoopGhostIn
import Derived.Test.YtcnfhndejkngkaaGreatDoorJpU
import Derived.Test.YtcnfhndejkngkaaGreatDoorJpJ
section
set_option linter.unusedSimpArgs false
set_option linter.unusedVariables false
set_option maxRecDepth 100000
namespace Go.Proofs.YtcnfhndejkngkaaGreatDoor
open Go.RowKit
section
variable {α : Type}
def AbE (J : Option Nat → List α → World → Prop) : Prop :=
  ∀ o s W W' o', J o s W → W.grownBy W' o → (o' = o ∨ ∃ g, o' = some g ∧ W.heap.size ≤ g) → J o' s W'
theorem AbE.alloc {J : Option Nat → List α → World → Prop} (h : AbE J) {o : Option Nat} {s : List α} {W : World} (ob : Obj) (hs : J o s W) : J o s (W.alloc ob) :=
  h o s W _ o hs (grownBy_more (World.grownBy_alloc W ob none) o) (.inl rfl)
def YieldsE (F : Fence) (n : Nat) (P : Program) (g : Nat) (lb : Array Value) (encs : α → Array Value) (C : World → Prop) (xs : List α) (fin : Bool) : Prop :=
  ∀ (l : Nat) (J Jx : Option Nat → List α → World → Prop) (W : World), AbE J → (∀ o s W1, J o s W1 → C W1) →
    (∀ o pre x W1, J o pre W1 → (∀ g, o = some g → W.heap.size ≤ g ∧ g < W1.heap.size) → W.heap.size ≤ W1.heap.size → pre ++ [x] <+: xs → YieldAt F (n - 1) P l (encs x) W1 fun e W' =>
      (e = .returned (.bool true) ∧ J o (pre ++ [x]) W' ∧ W1.heap.size ≤ W'.heap.size ∧ ∀ g, o = some g → W'.heap[g]? = W1.heap[g]?) ∨ (e = .returned (.bool false) ∧ Jx o (pre ++ [x]) W')) →
    (fin = false → ∀ o W1, J o xs W1 → False) → J none [] W →
    CallsIn F n P g (#[.func (.yield l) #[] #[]] ++ lb) W fun e W' => (∃ v, e = .returned v) ∧ ((fin = true ∧ ∃ o, J o xs W') ∨ ∃ o pre, Jx o pre W')
def keptE (B : Nat) (o : Option Nat) (k : Nat) : Prop := k = B ∨ k = B + 1 ∨ o = some k
def bodyPostE (B : Nat) (I : Option Nat → List α → World → Prop) (Ix : Code → Option Nat → List α → World → Prop) (o : Option Nat) (xs : List α) (W : World) : Exit → Act → World → Prop
  | .normal, _, W' => KP (keptE B o) W W' ∧ I o xs W'
  | .ret, _, W' => KP (keptE B o) W W' ∧ Ix .ret o xs W'
  | .exit id, _, W' => KP (keptE B o) W W' ∧ Ix (.exit id) o xs W'
  | .goto t, _, W' => KP (keptE B o) W W' ∧ Ix (.goto t) o xs W'
  | .panic _, _, _ => False
  | .outgrown, _, _ => False
variable {F : Fence} {n : Nat} {P : Program}
theorem wpIn_rangeE {g : Operand} {ps : Array Tmp} {assign body : Code} {Q : Exit → Act → World → Prop} {a : Act} {w : World}
    (hro : F.round = none) (h1 : 1 ≤ n) {gf : Nat} {lb : Array Value} (hg : a.eval g = .func (.func gf) #[] lb) (hFg : F.fn gf) (eg : ∀ args w, (callFunc gf args).run P w = .ok (.enter gf args) w)
    {encs : α → Array Value} {C : World → Prop} {xs : List α} {fin : Bool} (hseq : YieldsE F (n - 1) P gf lb encs C xs fin) (hps : ∀ x, (encs x).size = ps.size)
    (I : Option Nat → List α → World → Prop) (Ix : Code → Option Nat → List α → World → Prop) (hI : AbE I) (hIp : ∀ o s W ob, I o s W → I o s (W.putObj (w.heap.size + 1) ob)) (hIxp : ∀ c o s W ob, Ix c o s W → Ix c o s (W.putObj (w.heap.size + 1) ob)) (hC : ∀ o s W, I o s W → C W) (h0 : I none [] w) (a₁ : α → Act)
    (hassign : ∀ (l : Nat) (x : α) (W : World) (K : Act → World → Prop), K (a₁ x) W →
      assign.wpIn (F.inRound l) (n - 1 - 1) P (Exit.then K (fun _ _ _ => False)) { tmps := (ps.zip (encs x)).foldl (fun t (p, v) => t.setIfInBounds p v) a.tmps, defers := [] } W)
    (hbody : ∀ (l : Nat) (o : Option Nat) (pre : List α) (x : α) (W : World), I o pre W → (∀ g, o = some g → w.heap.size + 2 ≤ g ∧ g < W.heap.size) → pre ++ [x] <+: xs → w.heap.size + 2 ≤ W.heap.size → body.wpIn (F.inRound l) (n - 1 - 1) P (bodyPostE w.heap.size I Ix o (pre ++ [x]) W) (a₁ x) W)
    (hend : fin = false → ∀ o W, I o xs W → False)
    (hdone : fin = true → ∀ (o : Option Nat) (W : World), I o xs W → W.heap[w.heap.size]? = some (.deferred (some [])) → Q .normal { a with defers := { target := .collected w.heap.size, args := #[] } :: a.defers } W)
    (hstop : ∀ (c : Code) (o : Option Nat) (pre : List α) (W : World), Ix c o pre W → W.heap[w.heap.size]? = some (.deferred (some [])) → c.wpIn F n P Q { a with defers := { target := .collected w.heap.size, args := #[] } :: a.defers } W) :
    (Code.rangeFunc g ps assign body).wpIn F n P Q a w := by
  refine wpIn_rangeFunc ?_
  intro fn hfn
  rw [hro]
  obtain ⟨L, hL⟩ : ∃ L : LoopState → Option Code → Obj, L = fun st pe => .loop { state := st, pending := pe, fn, tmps := a.tmps, params := ps, assign, body, defers := w.heap.size } := ⟨_, rfl⟩
  obtain ⟨W1, hW1⟩ : ∃ W1, W1 = (w.alloc (.deferred (some []))).alloc (L .ready none) := ⟨_, rfl⟩
  have z1 : W1.heap.size = w.heap.size + 2 := by rw [hW1]; simp
  have dW : ∀ (X : World) (l : Nat) (o : Obj), X.heap[l]? = some o → l < X.heap.size := fun X l o h => (Array.getElem?_eq_some_iff.1 h).1
  have hR1 : W1.heap[w.heap.size + 1]? = some (L .ready none) := by
    rw [hW1]; have := World.alloc_heap_new (w.alloc (.deferred (some []))) (L .ready none); rwa [World.size_alloc] at this
  have hD1 : W1.heap[w.heap.size]? = some (.deferred (some [])) := by
    rw [hW1]; exact (Below.heap_alloc _ _ _ (by simp)).trans (World.alloc_heap_new w _)
  refine ⟨w.heap.size + 1, [{ target := .collected w.heap.size, args := #[] }], W1, { target := .fn (.func gf) lb, args := #[.func (.yield (w.heap.size + 1)) #[] #[]] }, W1, gf,
    #[.func (.yield (w.heap.size + 1)) #[] #[]] ++ lb, W1, ?_, ?_, ?_, ?_, fun _ => h1, ?_⟩
  · rw [hW1, hL]; exact run_enterLoop_outer _ _ _ _ _
  · simp only [resolve, hg]
    simp [go_sem]
  · intro f' hf'; simp [Target.leads] at hf'; subst hf'; exact hFg
  · simp [invoke, go_sem, eg]
  · refine (hseq (w.heap.size + 1)
      (fun o pre W => (∀ g, o = some g → w.heap.size + 2 ≤ g) ∧ I o pre W ∧ W.heap[w.heap.size + 1]? = some (L .ready none) ∧ W.heap[w.heap.size]? = some (.deferred (some [])))
      (fun o pre W => ∃ c, Ix c o pre W ∧ W.heap[w.heap.size + 1]? = some (L .done (some c)) ∧ W.heap[w.heap.size]? = some (.deferred (some [])))
      W1 ?_ (fun o s W h => hC o s W h.2.1) ?_ (fun hf o W h => hend hf o W h.2.1) ⟨(by intro g e; cases e), ?_, hR1, hD1⟩).mono ?_
    · rintro o s A B o' ⟨ho, hs, hl, hk⟩ hg' ho'
      have hA := dW _ _ _ hl
      refine ⟨?_, hI o s A B o' hs hg' ho', ?_, ?_⟩
      · rintro g' e
        rcases ho' with h | ⟨g2, h, h2⟩
        · exact ho g' (h ▸ e)
        · rw [h] at e; cases e; omega
      · exact (hg'.block _ hA (fun e => by have := ho _ e.symm; omega)).trans hl
      · exact (hg'.block _ (dW _ _ _ hk) (fun e => by have := ho _ e.symm; omega)).trans hk
    · rintro o pre x W ⟨ho, hi, hl, hk⟩ hol hsz hpre
      have hlt := dW _ _ _ hl
      have hl' := hl
      rw [hL] at hl'
      have hy := run_yield (P := P) (args := encs x) hl' (hps x)
      refine ⟨fn, _, assign, body, hy, roundIn_of_wpIn hfn (hassign _ x W _ ⟨_, run_beginRound hl' rfl, ?_⟩)⟩
      obtain ⟨Wb, hWb⟩ : ∃ Wb, Wb = W.putObj (w.heap.size + 1) (L .busy none) := ⟨_, rfl⟩
      have hl2 : Wb.heap[w.heap.size + 1]? = some (L .busy none) := by rw [hWb]; exact World.putObj_heap_same hlt
      have hk2 : Wb.heap[w.heap.size]? = some (.deferred (some [])) := by rw [hWb]; exact (World.putObj_heap_other (by omega)).trans hk
      have hi2 : I o pre Wb := by rw [hWb]; exact hIp _ _ _ _ hi
      have zb : Wb.heap.size = W.heap.size := by rw [hWb]; simp
      have kb : ∀ g, o = some g → Wb.heap[g]? = W.heap[g]? := fun g e => by rw [hWb]; exact World.putObj_heap_other (by have := ho g e; omega)
      have fin : ∀ (jump : Option Code) (W3 : World), KP (keptE w.heap.size o) Wb W3 →
          (Instr.endRound (w.heap.size + 1) jump).run P W3 = .ok (.bool jump.isNone) (W3.putObj (w.heap.size + 1) (L (if jump.isNone then .ready else .done) jump)) ∧
          (W3.putObj (w.heap.size + 1) (L (if jump.isNone then .ready else .done) jump)).heap[w.heap.size + 1]? = some (L (if jump.isNone then .ready else .done) jump) ∧
          (W3.putObj (w.heap.size + 1) (L (if jump.isNone then .ready else .done) jump)).heap[w.heap.size]? = some (.deferred (some [])) ∧
          W.heap.size ≤ (W3.putObj (w.heap.size + 1) (L (if jump.isNone then .ready else .done) jump)).heap.size ∧
          (∀ g, o = some g → (W3.putObj (w.heap.size + 1) (L (if jump.isNone then .ready else .done) jump)).heap[g]? = W.heap[g]?) := fun jump W3 h3 => by
        have hl3 : W3.heap[w.heap.size + 1]? = some (L .busy none) := (h3.block _ (.inr (.inl rfl)) (by omega)).trans hl2
        have hk3 : W3.heap[w.heap.size]? = some (.deferred (some [])) := (h3.block _ (.inl rfl) (by omega)).trans hk2
        have hl4 := hl3
        rw [hL] at hl4
        have he := run_endRound (P := P) jump hl4
        refine ⟨by rw [hL]; exact he, World.putObj_heap_same (dW _ _ _ hl3), (World.putObj_heap_other (by omega)).trans hk3, ?_, ?_⟩
        · have := h3.size; simp; omega
        · intro g e
          have h5 := ho g e
          have h6 := (hol g e).2
          exact (World.putObj_heap_other (by omega)).trans ((h3.block g (.inr (.inr e)) (by omega)).trans (kb g e))
      have hb := hbody (w.heap.size + 1) o pre x Wb hi2 (fun g e => ⟨ho g e, by rw [zb]; exact (hol g e).2⟩) hpre (by omega)
      have hb2 : body.wpIn (F.inRound (w.heap.size + 1)) (n - 1 - 1) P (bodyPostE w.heap.size I Ix o (pre ++ [x]) Wb) (a₁ x) (W.putObj (w.heap.size + 1) (L .busy none)) := by rw [← hWb]; exact hb
      rw [hL] at hb2
      refine wpIn_mono hb2 ?_
      rintro e a3 W3 hp
      cases e with
      | normal =>
        obtain ⟨h3, hi3⟩ := hp
        obtain ⟨hr, hl4, hk4, kk⟩ := fin none W3 h3
        exact ⟨_, _, hr, .inl ⟨rfl, ⟨ho, hIp _ _ _ _ hi3, hl4, hk4⟩, kk⟩⟩
      | ret =>
        obtain ⟨h3, hi3⟩ := hp
        obtain ⟨hr, hl4, hk4, kk⟩ := fin (some .ret) W3 h3
        exact ⟨_, _, hr, .inr ⟨rfl, .ret, hIxp _ _ _ _ _ hi3, hl4, hk4⟩⟩
      | exit id =>
        obtain ⟨h3, hi3⟩ := hp
        obtain ⟨hr, hl4, hk4, kk⟩ := fin (some (.exit id)) W3 h3
        exact ⟨_, _, hr, .inr ⟨rfl, .exit id, hIxp _ _ _ _ _ hi3, hl4, hk4⟩⟩
      | goto t =>
        obtain ⟨h3, hi3⟩ := hp
        obtain ⟨hr, hl4, hk4, kk⟩ := fin (some (.goto t)) W3 h3
        exact ⟨_, _, hr, .inr ⟨rfl, .goto t, hIxp _ _ _ _ _ hi3, hl4, hk4⟩⟩
      | panic ch => exact hp.elim
      | outgrown => exact hp.elim
    · rw [hW1]; exact hI.alloc _ (hI.alloc _ h0)
    · rintro e W2 ⟨⟨v, rfl⟩, ⟨hf, o, _, hi, hl, hk⟩ | ⟨o, pre, c, hi, hl, hk⟩⟩
      · have hl' := hl
        rw [hL] at hl'
        exact ⟨none, _, run_endLoop (P := P) hl' (by simp), hdone hf o _ (hIp _ _ _ _ hi) ((World.putObj_heap_other (by omega)).trans hk)⟩
      · have hl' := hl
        rw [hL] at hl'
        exact ⟨some c, _, run_endLoop (P := P) hl' (by simp), hstop c o pre _ (hIxp _ _ _ _ _ hi) ((World.putObj_heap_other (by omega)).trans hk)⟩
end
end Go.Proofs.YtcnfhndejkngkaaGreatDoor
end

section
set_option linter.unusedSimpArgs false
set_option linter.unusedVariables false
set_option maxRecDepth 100000
namespace Go.Proofs.YtcnfhndejkngkaaGreatDoor
open Go.RowKit
structure Nx (d r p q P Q : Nat) : Prop where
  hd : d ≤ 1000000000
  hp : p ≤ 1000000
  hr : r ≤ 1000000
  hq : 1 ≤ q
  hq2 : q ≤ 1000000
  hP : P ≤ 1000000
  he : P + p = (p + r) / q * q
  hPP : P * P ≤ d
  hQ : (d - P * P) / q = Q
structure Sq (d r p0 q0 : Nat) (t : Nat → Nat × Nat) : Prop where
  first : Nx d r p0 q0 (t 0).1 (t 0).2
  step : ∀ i, Nx d r (t i).1 (t i).2 (t (i + 1)).1 (t (i + 1)).2
def kth (r : Nat) (t : Nat → Nat × Nat) (i : Nat) : Nat := ((t i).1 + r) / (t i).2
def kl (r : Nat) (t : Nat → Nat × Nat) (n : Nat) : List Nat := (List.range n).map (kth r t)
theorem grownBy_below {W W' : World} (h : Below W.heap.size W W') (o : Option Nat) : W.grownBy W' o := ⟨h.os, h.tape, h.output, h.size, fun k hk _ => h.block k hk⟩
end Go.Proofs.YtcnfhndejkngkaaGreatDoor
end

section
set_option linter.unusedSimpArgs false
set_option linter.unusedVariables false
set_option maxRecDepth 100000
namespace Go.Proofs.YtcnfhndejkngkaaGreatDoor
open Go.RowKit
theorem Cl.put {b l : Nat} {c : List Value} {t : TypeId} {W : World} (h : Cl b c t W) (ob : Obj) (hl : b ≠ l) : Cl b c t (W.putObj l ob) := (World.putObj_heap_other hl).trans h
def CyPost (r : Nat) (t : Nat → Nat × Nat) (N : Nat) (w : World) (e : Ending) (w' : World) : Prop :=
  Below w.heap.size w w' ∧ ((N ≤ 1000 ∧ ∃ a c, e = .returned (.tuple #[.slice a N c, .agg #[.int .i64 0, .int .i64 0]]) ∧ w'.ownsRow w.heap.size 3 1 (.slice a N c) N (ints (nz (kl r t N)))) ∨ (1000 < N ∧ e = .returned (.tuple #[.slice none 0 0, .agg #[.int .i64 9, .int .i64 0]])))
end Go.Proofs.YtcnfhndejkngkaaGreatDoor
end

section
set_option linter.unusedSimpArgs false
set_option linter.unusedVariables false
set_option maxRecDepth 100000
namespace Go.Proofs.YtcnfhndejkngkaaGreatDoor
open Go.RowKit
theorem modLeft_i (a n : Int) (w : World) (ha : a.natAbs ≤ 4000000000000000000) (h0 : 1 ≤ n) (hn : n ≤ 1000000000000000000) :
    Calls Tryz.prog 129 #[.int .i64 a, .int .i64 n] w fun e w' => e = .returned (.int .i64 (a % n)) ∧ w' = w := by
  obtain ⟨m, rfl⟩ : ∃ m : Nat, n = m := ⟨n.toNat, by omega⟩
  exact left_any a m w ha (by omega) hn
set_option maxHeartbeats 1000000 in
theorem quotients_any (a b : Int) (w : World) :
    Calls Tryz.prog 101 #[.int .i64 a, .int .i64 b] w fun e w' => e = .returned (.func (.func 128) #[] #[.pointer (some ⟨w.heap.size, 0, none⟩), .pointer (some ⟨w.heap.size + 1, 0, none⟩)]) ∧ w' = (w.alloc (.cells #[.int .i64 a] 3)).alloc (.cells #[.int .i64 b] 3) := by
  go_enter Tryz.func101, Tryz.ntmps101
  go_wp2
  go_ret
  exact ⟨rfl, rfl⟩
theorem w64_id {x : Int} (h1 : -9223372036854775808 ≤ x) (h2 : x ≤ 9223372036854775807) : wrap64 x = x := by
  simp only [wrap64]; omega
structure Qs (a b : Int) (i : Nat) (u v R k : Int) : Prop where
  hu : u = (CnQ.es a b i).1
  hv : v = (CnQ.es a b i).2
  hR : u % v = R
  hk : k = CnQ.kq a b i
  q : (u - R).tdiv v = k
  ub : u.natAbs ≤ 1000000000000000000
  v0 : 1 ≤ v
  vb : v ≤ 1000000000000000000
  R0 : 0 ≤ R
  Rb : R < v
  kb : k.natAbs ≤ 1000000000000000000
theorem qs_of {a b : Int} {N : Nat} (h : CnQ.En a b N) (ha : a.natAbs ≤ 1000000000000000000) (hb : b ≤ 1000000000000000000) {i : Nat} (hi : i < N) : Qs a b i (CnQ.es a b i).1 (CnQ.es a b i).2 ((CnQ.es a b i).1 % (CnQ.es a b i).2) (CnQ.kq a b i) := by
  have p := h.pos i hi
  have d := h.down_le (i := i) (by omega)
  refine ⟨rfl, rfl, rfl, rfl, ?_, ?_, by omega, by omega, Int.emod_nonneg _ (by omega), Int.emod_lt_of_pos _ p, h.size ha (by have := h.b0; omega) hi⟩
  · have e := Int.mul_ediv_add_emod (CnQ.es a b i).1 (CnQ.es a b i).2
    have e2 : (CnQ.es a b i).1 - (CnQ.es a b i).1 % (CnQ.es a b i).2 = (CnQ.es a b i).2 * CnQ.kq a b i := by unfold CnQ.kq; omega
    rw [e2]
    exact Int.mul_tdiv_cancel_left _ (by omega)
  · rcases Nat.eq_zero_or_pos i with e | e
    · subst e; exact ha
    · have := h.up hi e; omega
set_option maxHeartbeats 4000000 in
theorem quotients_yields (a b : Int) (N ba bb : Nat) (h : CnQ.En a b N) (ha : a.natAbs ≤ 1000000000000000000) (hb : b ≤ 1000000000000000000) (n : Nat) (hn : 2 ≤ n) :
    YieldsE Fence.wide n Tryz.prog 128 #[.pointer (some ⟨ba, 0, none⟩), .pointer (some ⟨bb, 0, none⟩)] (fun x : Int => #[.int .i64 x]) (fun W => Cl ba [.int .i64 a] 3 W ∧ Cl bb [.int .i64 b] 3 W) (CnQ.ek a b N) true := by
  intro l J Jx W hJ hC hY hend h0
  have HY : Hid (∀ (o : Option Nat) (pre : List Int) (x : Int) (W1 : World), J o pre W1 → (∀ g, o = some g → W.heap.size ≤ g ∧ g < W1.heap.size) → W.heap.size ≤ W1.heap.size → pre ++ [x] <+: CnQ.ek a b N → YieldAt Fence.wide (n - 1) Tryz.prog l #[.int .i64 x] W1 fun e W' =>
      (e = .returned (.bool true) ∧ J o (pre ++ [x]) W' ∧ W1.heap.size ≤ W'.heap.size ∧ ∀ g, o = some g → W'.heap[g]? = W1.heap[g]?) ∨ (e = .returned (.bool false) ∧ Jx o (pre ++ [x]) W')) := hY
  have HJ : Hid (AbE J) := hJ
  have H0 : Hid (J none [] W) := h0
  have HE : Hid (CnQ.En a b N) := h
  have HQ : Hid (∀ i, i < N → Qs a b i (CnQ.es a b i).1 (CnQ.es a b i).2 ((CnQ.es a b i).1 % (CnQ.es a b i).2) (CnQ.kq a b i)) := fun i hi => qs_of h ha hb hi
  obtain ⟨ca, cb⟩ := hC _ _ _ h0
  have c0 := ca.cell 0
  have c1 := cb.cell 0
  simp only [List.getElem?_cons_zero] at c0 c1
  clear hY hJ hend h hC ca cb ha hb h0
  refine callsIn_of_wp Tryz.func128 rfl trivial ?_ rfl
  simp only [Tryz.ntmps128, List.size_toArray, List.length_cons, List.length_nil, Nat.reduceAdd, Nat.reduceSub, Array.replicate_succ, Array.replicate_zero, List.push_toArray, List.append_toArray, List.nil_append, List.cons_append]
  gi_wp2
  gi_region
  gi_wp2
  have HJ1 : Hid (J none [] W.drew) := HJ.out _ _ _ _ _ H0.out (grownBy_below (Below.refl _ _).drew none) (.inl rfl)
  clear c0 c1 H0
  gi_loopg [4, 5, 6] N (fun k pu pv pr wx => ∃ (i : Nat), pu = .int .i64 (CnQ.es a b i).1 ∧ pv = .int .i64 (CnQ.es a b i).2 ∧ i + k = N ∧ W.heap.size ≤ wx.heap.size ∧ Hid (J none (CnQ.ek a b i) wx))
  case atStart => exact ⟨0, rfl, rfl, by omega, by simp, HJ1.out⟩
  case round =>
    clear HJ1
    obtain ⟨i, rfl, rfl, hik, hz, HR⟩ := hrel
    by_cases hiN : i < N
    · have hq := HQ.out i hiN
      obtain ⟨u, hu⟩ : ∃ u, u = (CnQ.es a b i).1 := ⟨_, rfl⟩
      obtain ⟨v, hv⟩ : ∃ v, v = (CnQ.es a b i).2 := ⟨_, rfl⟩
      obtain ⟨K, hK⟩ : ∃ K, K = CnQ.kq a b i := ⟨_, rfl⟩
      obtain ⟨R, hR⟩ : ∃ R, R = (CnQ.es a b i).1 % (CnQ.es a b i).2 := ⟨_, rfl⟩
      rw [← hu, ← hv] at hR
      rw [← hu, ← hv, ← hR, ← hK] at hq
      rw [← hu, ← hv]
      have HLf : Hid (∀ W, Calls Tryz.prog 129 #[.int .i64 u, .int .i64 v] W fun e w' => e = .returned (.int .i64 R) ∧ w' = W) := fun W => by
        rw [hR]; exact modLeft_i u v W (by have := hq.ub; omega) hq.v0 hq.vb
      have hvb : (v != 0) = true := bne_iff_ne.2 (by have := hq.v0; omega)
      have hve : (v == 0) = false := beq_eq_false_iff_ne.2 (by have := hq.v0; omega)
      have hdiv := hq.q
      have hKw : wrap64 K = K := w64_id (by have := hq.kb; omega) (by have := hq.kb; omega)
      have HQs : Hid (Qs a b i u v R K) := hq
      have b1 := hq.ub
      have b2 := hq.R0
      have b3 := hq.Rb
      have b4 := hq.vb
      have b5 := hq.v0
      have HK9 : Hid (K = CnQ.kq a b i) := hK
      have HU9 : Hid (u = (CnQ.es a b i).1 ∧ v = (CnQ.es a b i).2 ∧ R = u % v) := ⟨hu, hv, hR⟩
      clear hu hv hR hK hq
      gi_wp2
      refine ⟨trivial, fun _ => by omega, ?_⟩
      refine (callsIn_wide.2 (HLf.out _)).mono ?_
      rintro e w2 ⟨rfl, hw2⟩
      rw [hw2]
      clear hw2 w2
      obtain ⟨fn, tmps, assign, body, hy, hRd⟩ := HY.out none (CnQ.ek a b i) K wr HR.out (fun g e => by cases e) hz (by rw [HK9.out, ← CnQ.ek_succ]; exact CnQ.ek_prefix a b (by omega))
      gi_wp2
      refine ⟨fun _ => by omega, hRd.mono ?_⟩
      rintro e W' (⟨rfl, hJ', zk, hk'⟩ | ⟨rfl, hJx'⟩)
      · have HJ4 : Hid (J none (CnQ.ek a b (i + 1)) W') := by
          have := hJ'
          rw [HK9.out, ← CnQ.ek_succ] at this; exact this
        clear hJ' hk' hRd hy
        gi_wp2
        gi_roundg (gk - 1)
        case rel =>
          have s := HE.out.step hiN
          refine ⟨i + 1, ?_, ?_, by omega, by omega, HJ4.out⟩
          · rw [s.1, ← HU9.out.2.1]
          · rw [s.2.1, ← HU9.out.1, ← HU9.out.2.1, ← HU9.out.2.2]
        case measure => omega
      · gi_wp2
        exact bodyPost_ret (results_none rfl _ _ _) rfl ⟨⟨_, rfl⟩, .inr ⟨_, _, hJx'⟩⟩
    · obtain rfl : i = N := by omega
      have hz0 : ((CnQ.es a b i).2 != 0) = false := by rw [HE.out.zero]; rfl
      gi_wp2
      exact bodyPost_end (results_none rfl _ _ _) rfl ⟨⟨_, rfl⟩, .inl ⟨trivial, none, HR.out⟩⟩
end Go.Proofs.YtcnfhndejkngkaaGreatDoor
end
