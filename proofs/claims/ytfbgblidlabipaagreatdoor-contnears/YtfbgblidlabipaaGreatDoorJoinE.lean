import Derived.Test.YtfbgblidlabipaaGreatDoorJoinB
import Derived.Test.YtfbgblidlabipaaGreatDoorJoinD
import Derived.Sort.LoopGhostIn
import Derived.Test.YtfbgblidlabipaaGreatDoorJoinA
import Derived.Test.YtfbgblidlabipaaGreatDoorJoinC
section
/- A range over an iterator that keeps one block of its own, reads what it has captured, and may come to an end of its own; the body may write into blocks of its own. -/
set_option linter.unusedSimpArgs false
set_option linter.unusedVariables false
set_option maxRecDepth 100000
namespace Go.Proofs.YtfbgblidlabipaaGreatDoor
open Go.RowKit
section
variable {α : Type}

/-- What is said of the world hangs not on the iterator's block, and stays where the iterator takes a new one. -/
def AbE (J : Option Nat → List α → World → Prop) : Prop :=
  ∀ o s W W' o', J o s W → W.grownBy W' o → (o' = o ∨ ∃ g, o' = some g ∧ W.heap.size ≤ g) → J o' s W'
theorem AbE.alloc {J : Option Nat → List α → World → Prop} (h : AbE J) {o : Option Nat} {s : List α} {W : World} (ob : Obj) (hs : J o s W) : J o s (W.alloc ob) :=
  h o s W _ o hs (grownBy_more (World.grownBy_alloc W ob none) o) (.inl rfl)

/-- The iterator yields xs in their order, for as long as it is asked for more. Behind the last it returns (fin), or else the body leaves it there at the latest. What it reads of the memory is C's. -/
def YieldsE (F : Fence) (n : Nat) (P : Program) (g : Nat) (lb : Array Value) (encs : α → Array Value) (C : World → Prop) (xs : List α) (fin : Bool) : Prop :=
  ∀ (l : Nat) (J Jx : Option Nat → List α → World → Prop) (W : World), AbE J → (∀ o s W1, J o s W1 → C W1) →
    (∀ o pre x W1, J o pre W1 → (∀ g, o = some g → W.heap.size ≤ g ∧ g < W1.heap.size) → W.heap.size ≤ W1.heap.size → pre ++ [x] <+: xs → YieldAt F (n - 1) P l (encs x) W1 fun e W' =>
      (e = .returned (.bool true) ∧ J o (pre ++ [x]) W' ∧ W1.heap.size ≤ W'.heap.size ∧ ∀ g, o = some g → W'.heap[g]? = W1.heap[g]?) ∨ (e = .returned (.bool false) ∧ Jx o (pre ++ [x]) W')) →
    (fin = false → ∀ o W1, J o xs W1 → False) → J none [] W →
    CallsIn F n P g (#[.func (.yield l) #[] #[]] ++ lb) W fun e W' => (∃ v, e = .returned v) ∧ ((fin = true ∧ ∃ o, J o xs W') ∨ ∃ o pre, Jx o pre W')

def keptE (B : Nat) (o : Option Nat) (k : Nat) : Prop := k = B ∨ k = B + 1 ∨ o = some k

def bodyPostE (B : Nat) (I : Option Nat → List α → World → Prop) (Ix : Code → Option Nat → List α → World → Prop) (o : Option Nat) (xs : List α) (W : World) : Exit → Act → World → Prop
  | .normal, _, W' => KP (keptE B o) W W' ∧ I o xs W'
  | .ret, _, W' => KP (keptE B o) W W' ∧ Ix .ret o xs W'
  | .exit id, _, W' => KP (keptE B o) W W' ∧ Ix (.exit id) o xs W'
  | .goto t, _, W' => KP (keptE B o) W W' ∧ Ix (.goto t) o xs W'
  | .panic _, _, _ => False
  | .outgrown, _, _ => False

variable {F : Fence} {n : Nat} {P : Program}

theorem wpIn_rangeE {g : Operand} {ps : Array Tmp} {assign body : Code} {Q : Exit → Act → World → Prop} {a : Act} {w : World}
    (hro : F.round = none) (h1 : 1 ≤ n) {gf : Nat} {lb : Array Value} (hg : a.eval g = .func (.func gf) #[] lb) (hFg : F.fn gf) (eg : ∀ args w, (callFunc gf args).run P w = .ok (.enter gf args) w)
    {encs : α → Array Value} {C : World → Prop} {xs : List α} {fin : Bool} (hseq : YieldsE F (n - 1) P gf lb encs C xs fin) (hps : ∀ x, (encs x).size = ps.size)
    (I : Option Nat → List α → World → Prop) (Ix : Code → Option Nat → List α → World → Prop) (hI : AbE I) (hIp : ∀ o s W ob, I o s W → I o s (W.putObj (w.heap.size + 1) ob)) (hIxp : ∀ c o s W ob, Ix c o s W → Ix c o s (W.putObj (w.heap.size + 1) ob)) (hC : ∀ o s W, I o s W → C W) (h0 : I none [] w) (a₁ : α → Act)
    (hassign : ∀ (l : Nat) (x : α) (W : World) (K : Act → World → Prop), K (a₁ x) W →
      assign.wpIn (F.inRound l) (n - 1 - 1) P (Exit.then K (fun _ _ _ => False)) { tmps := (ps.zip (encs x)).foldl (fun t (p, v) => t.setIfInBounds p v) a.tmps, defers := [] } W)
    (hbody : ∀ (l : Nat) (o : Option Nat) (pre : List α) (x : α) (W : World), I o pre W → (∀ g, o = some g → w.heap.size + 2 ≤ g ∧ g < W.heap.size) → pre ++ [x] <+: xs → w.heap.size + 2 ≤ W.heap.size → body.wpIn (F.inRound l) (n - 1 - 1) P (bodyPostE w.heap.size I Ix o (pre ++ [x]) W) (a₁ x) W)
    (hend : fin = false → ∀ o W, I o xs W → False)
    (hdone : fin = true → ∀ (o : Option Nat) (W : World), I o xs W → W.heap[w.heap.size]? = some (.deferred (some [])) → Q .normal { a with defers := { target := .collected w.heap.size, args := #[] } :: a.defers } W)
    (hstop : ∀ (c : Code) (o : Option Nat) (pre : List α) (W : World), Ix c o pre W → W.heap[w.heap.size]? = some (.deferred (some [])) → c.wpIn F n P Q { a with defers := { target := .collected w.heap.size, args := #[] } :: a.defers } W) :
    (Code.rangeFunc g ps assign body).wpIn F n P Q a w := by
  refine wpIn_rangeFunc ?_
  intro fn hfn
  rw [hro]
  obtain ⟨L, hL⟩ : ∃ L : LoopState → Option Code → Obj, L = fun st pe => .loop { state := st, pending := pe, fn, tmps := a.tmps, params := ps, assign, body, defers := w.heap.size } := ⟨_, rfl⟩
  obtain ⟨W1, hW1⟩ : ∃ W1, W1 = (w.alloc (.deferred (some []))).alloc (L .ready none) := ⟨_, rfl⟩
  have z1 : W1.heap.size = w.heap.size + 2 := by rw [hW1]; simp
  have dW : ∀ (X : World) (l : Nat) (o : Obj), X.heap[l]? = some o → l < X.heap.size := fun X l o h => (Array.getElem?_eq_some_iff.1 h).1
  have hR1 : W1.heap[w.heap.size + 1]? = some (L .ready none) := by
    rw [hW1]; have := World.alloc_heap_new (w.alloc (.deferred (some []))) (L .ready none); rwa [World.size_alloc] at this
  have hD1 : W1.heap[w.heap.size]? = some (.deferred (some [])) := by
    rw [hW1]; exact (Below.heap_alloc _ _ _ (by simp)).trans (World.alloc_heap_new w _)
  refine ⟨w.heap.size + 1, [{ target := .collected w.heap.size, args := #[] }], W1, { target := .fn (.func gf) lb, args := #[.func (.yield (w.heap.size + 1)) #[] #[]] }, W1, gf,
    #[.func (.yield (w.heap.size + 1)) #[] #[]] ++ lb, W1, ?_, ?_, ?_, ?_, fun _ => h1, ?_⟩
  · rw [hW1, hL]; exact run_enterLoop_outer _ _ _ _ _
  · simp only [resolve, hg]
    simp [go_sem]
  · intro f' hf'; simp [Target.leads] at hf'; subst hf'; exact hFg
  · simp [invoke, go_sem, eg]
  · refine (hseq (w.heap.size + 1)
      (fun o pre W => (∀ g, o = some g → w.heap.size + 2 ≤ g) ∧ I o pre W ∧ W.heap[w.heap.size + 1]? = some (L .ready none) ∧ W.heap[w.heap.size]? = some (.deferred (some [])))
      (fun o pre W => ∃ c, Ix c o pre W ∧ W.heap[w.heap.size + 1]? = some (L .done (some c)) ∧ W.heap[w.heap.size]? = some (.deferred (some [])))
      W1 ?_ (fun o s W h => hC o s W h.2.1) ?_ (fun hf o W h => hend hf o W h.2.1) ⟨(by intro g e; cases e), ?_, hR1, hD1⟩).mono ?_
    · rintro o s A B o' ⟨ho, hs, hl, hk⟩ hg' ho'
      have hA := dW _ _ _ hl
      refine ⟨?_, hI o s A B o' hs hg' ho', ?_, ?_⟩
      · rintro g' e
        rcases ho' with h | ⟨g2, h, h2⟩
        · exact ho g' (h ▸ e)
        · rw [h] at e; cases e; omega
      · exact (hg'.block _ hA (fun e => by have := ho _ e.symm; omega)).trans hl
      · exact (hg'.block _ (dW _ _ _ hk) (fun e => by have := ho _ e.symm; omega)).trans hk
    · rintro o pre x W ⟨ho, hi, hl, hk⟩ hol hsz hpre
      have hlt := dW _ _ _ hl
      have hl' := hl
      rw [hL] at hl'
      have hy := run_yield (P := P) (args := encs x) hl' (hps x)
      refine ⟨fn, _, assign, body, hy, roundIn_of_wpIn hfn (hassign _ x W _ ⟨_, run_beginRound hl' rfl, ?_⟩)⟩
      obtain ⟨Wb, hWb⟩ : ∃ Wb, Wb = W.putObj (w.heap.size + 1) (L .busy none) := ⟨_, rfl⟩
      have hl2 : Wb.heap[w.heap.size + 1]? = some (L .busy none) := by rw [hWb]; exact World.putObj_heap_same hlt
      have hk2 : Wb.heap[w.heap.size]? = some (.deferred (some [])) := by rw [hWb]; exact (World.putObj_heap_other (by omega)).trans hk
      have hi2 : I o pre Wb := by rw [hWb]; exact hIp _ _ _ _ hi
      have zb : Wb.heap.size = W.heap.size := by rw [hWb]; simp
      have kb : ∀ g, o = some g → Wb.heap[g]? = W.heap[g]? := fun g e => by rw [hWb]; exact World.putObj_heap_other (by have := ho g e; omega)
      have fin : ∀ (jump : Option Code) (W3 : World), KP (keptE w.heap.size o) Wb W3 →
          (Instr.endRound (w.heap.size + 1) jump).run P W3 = .ok (.bool jump.isNone) (W3.putObj (w.heap.size + 1) (L (if jump.isNone then .ready else .done) jump)) ∧
          (W3.putObj (w.heap.size + 1) (L (if jump.isNone then .ready else .done) jump)).heap[w.heap.size + 1]? = some (L (if jump.isNone then .ready else .done) jump) ∧
          (W3.putObj (w.heap.size + 1) (L (if jump.isNone then .ready else .done) jump)).heap[w.heap.size]? = some (.deferred (some [])) ∧
          W.heap.size ≤ (W3.putObj (w.heap.size + 1) (L (if jump.isNone then .ready else .done) jump)).heap.size ∧
          (∀ g, o = some g → (W3.putObj (w.heap.size + 1) (L (if jump.isNone then .ready else .done) jump)).heap[g]? = W.heap[g]?) := fun jump W3 h3 => by
        have hl3 : W3.heap[w.heap.size + 1]? = some (L .busy none) := (h3.block _ (.inr (.inl rfl)) (by omega)).trans hl2
        have hk3 : W3.heap[w.heap.size]? = some (.deferred (some [])) := (h3.block _ (.inl rfl) (by omega)).trans hk2
        have hl4 := hl3
        rw [hL] at hl4
        have he := run_endRound (P := P) jump hl4
        refine ⟨by rw [hL]; exact he, World.putObj_heap_same (dW _ _ _ hl3), (World.putObj_heap_other (by omega)).trans hk3, ?_, ?_⟩
        · have := h3.size; simp; omega
        · intro g e
          have h5 := ho g e
          have h6 := (hol g e).2
          exact (World.putObj_heap_other (by omega)).trans ((h3.block g (.inr (.inr e)) (by omega)).trans (kb g e))
      have hb := hbody (w.heap.size + 1) o pre x Wb hi2 (fun g e => ⟨ho g e, by rw [zb]; exact (hol g e).2⟩) hpre (by omega)
      have hb2 : body.wpIn (F.inRound (w.heap.size + 1)) (n - 1 - 1) P (bodyPostE w.heap.size I Ix o (pre ++ [x]) Wb) (a₁ x) (W.putObj (w.heap.size + 1) (L .busy none)) := by rw [← hWb]; exact hb
      rw [hL] at hb2
      refine wpIn_mono hb2 ?_
      rintro e a3 W3 hp
      cases e with
      | normal =>
        obtain ⟨h3, hi3⟩ := hp
        obtain ⟨hr, hl4, hk4, kk⟩ := fin none W3 h3
        exact ⟨_, _, hr, .inl ⟨rfl, ⟨ho, hIp _ _ _ _ hi3, hl4, hk4⟩, kk⟩⟩
      | ret =>
        obtain ⟨h3, hi3⟩ := hp
        obtain ⟨hr, hl4, hk4, kk⟩ := fin (some .ret) W3 h3
        exact ⟨_, _, hr, .inr ⟨rfl, .ret, hIxp _ _ _ _ _ hi3, hl4, hk4⟩⟩
      | exit id =>
        obtain ⟨h3, hi3⟩ := hp
        obtain ⟨hr, hl4, hk4, kk⟩ := fin (some (.exit id)) W3 h3
        exact ⟨_, _, hr, .inr ⟨rfl, .exit id, hIxp _ _ _ _ _ hi3, hl4, hk4⟩⟩
      | goto t =>
        obtain ⟨h3, hi3⟩ := hp
        obtain ⟨hr, hl4, hk4, kk⟩ := fin (some (.goto t)) W3 h3
        exact ⟨_, _, hr, .inr ⟨rfl, .goto t, hIxp _ _ _ _ _ hi3, hl4, hk4⟩⟩
      | panic ch => exact hp.elim
      | outgrown => exact hp.elim
    · rw [hW1]; exact hI.alloc _ (hI.alloc _ h0)
    · rintro e W2 ⟨⟨v, rfl⟩, ⟨hf, o, _, hi, hl, hk⟩ | ⟨o, pre, c, hi, hl, hk⟩⟩
      · have hl' := hl
        rw [hL] at hl'
        exact ⟨none, _, run_endLoop (P := P) hl' (by simp), hdone hf o _ (hIp _ _ _ _ hi) ((World.putObj_heap_other (by omega)).trans hk)⟩
      · have hl' := hl
        rw [hL] at hl'
        exact ⟨some c, _, run_endLoop (P := P) hl' (by simp), hstop c o pre _ (hIxp _ _ _ _ _ hi) ((World.putObj_heap_other (by omega)).trans hk)⟩

end
end Go.Proofs.YtfbgblidlabipaaGreatDoor
end

section
/- The program: cont.part's iterator. -/
set_option linter.unusedSimpArgs false
set_option linter.unusedVariables false
set_option maxRecDepth 100000
namespace Go.Proofs.YtfbgblidlabipaaGreatDoor
open Go.RowKit

/-- One step of the list: what next asks, and answers. -/
structure Nx (d r p q P Q : Nat) : Prop where
  hd : d ≤ 1000000000
  hp : p ≤ 1000000
  hr : r ≤ 1000000
  hq : 1 ≤ q
  hq2 : q ≤ 1000000
  hP : P ≤ 1000000
  he : P + p = (p + r) / q * q
  hPP : P * P ≤ d
  hQ : (d - P * P) / q = Q
theorem Nx.call {d r p q P Q : Nat} (h : Nx d r p q P Q) (w : World) : Calls Tryz.prog 135 #[sgv d r p q] w fun e w' => e = .returned (sgv d r P Q) ∧ Below w.heap.size w w' :=
  next_any d r p q P Q w h.hd h.hp h.hr h.hq h.hq2 h.hP h.he h.hPP h.hQ

/-- What comes behind (p0 + root) / q0, one after the other. -/
structure Sq (d r p0 q0 : Nat) (t : Nat → Nat × Nat) : Prop where
  first : Nx d r p0 q0 (t 0).1 (t 0).2
  step : ∀ i, Nx d r (t i).1 (t i).2 (t (i + 1)).1 (t (i + 1)).2
def kth (r : Nat) (t : Nat → Nat × Nat) (i : Nat) : Nat := ((t i).1 + r) / (t i).2
def kl (r : Nat) (t : Nat → Nat × Nat) (n : Nat) : List Nat := (List.range n).map (kth r t)
theorem kl_succ (r : Nat) (t : Nat → Nat × Nat) (n : Nat) : kl r t (n + 1) = kl r t n ++ [kth r t n] := by simp [kl, List.range_succ]
theorem kl_len (r : Nat) (t : Nat → Nat × Nat) (n : Nat) : (kl r t n).length = n := by simp [kl]
theorem kl_prefix (r : Nat) (t : Nat → Nat × Nat) {m n : Nat} (h : m ≤ n) : kl r t m <+: kl r t n := by
  induction n with
  | zero => obtain rfl : m = 0 := by omega
            exact List.prefix_refl _
  | succ n ih =>
    by_cases e : m = n + 1
    · subst e; exact List.prefix_refl _
    · rw [kl_succ]; exact (ih (by omega)).trans (List.prefix_append _ _)
theorem kl_prefix_len (r : Nat) (t : Nat → Nat × Nat) {n : Nat} {pre : List Nat} (h : pre <+: kl r t n) : pre = kl r t pre.length := by
  have h1 := h.length_le
  rw [kl_len] at h1
  exact List.IsPrefix.eq_of_length (List.prefix_of_prefix_length_le h (kl_prefix r t h1) (by rw [kl_len]; exact Nat.le_refl _)) (by rw [kl_len])

theorem grownBy_below {W W' : World} (h : Below W.heap.size W W') (o : Option Nat) : W.grownBy W' o := ⟨h.os, h.tape, h.output, h.size, fun k hk _ => h.block k hk⟩

theorem grownBy_setCell (w : World) (g o : Nat) (v : Value) : w.grownBy (w.setCell ⟨g, o, none⟩ v) (some g) :=
  ⟨rfl, rfl, rfl, by simp [World.setCell], fun k _ hk => Below.heap_setCell _ _ _ _ (fun e => hk (by simp [e]))⟩

set_option maxHeartbeats 4000000 in
theorem part_yields (d r p0 q0 b N : Nat) (t : Nat → Nat × Nat) (hs : Sq d r p0 q0 t) (fin : Bool) (hN : 1 ≤ N) (hf : fin = true → (t (N - 1)).2 = q0) (hne : ∀ i, i < N - 1 → (t i).2 ≠ q0) (hnf : fin = false → (t (N - 1)).2 ≠ q0) (n : Nat) (hn : 2 ≤ n) :
    YieldsE Fence.wide n Tryz.prog 182 #[.pointer (some ⟨b, 0, none⟩)] (fun x : Nat => #[.int .i64 (x : Int)]) (fun W => Cl b (sgc d r p0 q0) 110 W) (kl r t N) fin := by
  intro l J Jx W hJ hC hY hend h0
  have HY : Hid (∀ (o : Option Nat) (pre : List Nat) (x : Nat) (W1 : World), J o pre W1 → (∀ g, o = some g → W.heap.size ≤ g ∧ g < W1.heap.size) → W.heap.size ≤ W1.heap.size → pre ++ [x] <+: kl r t N → YieldAt Fence.wide (n - 1) Tryz.prog l #[.int .i64 (x : Int)] W1 fun e W' =>
      (e = .returned (.bool true) ∧ J o (pre ++ [x]) W' ∧ W1.heap.size ≤ W'.heap.size ∧ ∀ g, o = some g → W'.heap[g]? = W1.heap[g]?) ∨ (e = .returned (.bool false) ∧ Jx o (pre ++ [x]) W')) := hY
  have HJ : Hid (AbE J) := hJ
  have HC : Hid (∀ o s W1, J o s W1 → Cl b (sgc d r p0 q0) 110 W1) := hC
  have HEnd : Hid (fin = false → ∀ o W1, J o (kl r t N) W1 → False) := hend
  have H0 : Hid (J none [] W) := h0
  have HS : Hid (Sq d r p0 q0 t) := hs
  have HF : Hid (fin = true → (t (N - 1)).2 = q0) := hf
  have HNE : Hid (∀ i, i < N - 1 → (t i).2 ≠ q0) := hne
  have HNF : Hid (fin = false → (t (N - 1)).2 ≠ q0) := hnf
  clear hY hJ hend hs hf hne hnf hC
  have HNx0 : Hid (∀ W, Calls Tryz.prog 135 #[.agg #[.int .i64 (d : Int), .int .i64 (r : Int), .int .i64 (p0 : Int), .int .i64 (q0 : Int)]] W fun e w' => e = .returned (.agg #[.int .i64 (d : Int), .int .i64 (r : Int), .int .i64 ((t 0).1 : Int), .int .i64 ((t 0).2 : Int)]) ∧ Below W.heap.size W w') := fun W => HS.out.first.call W
  obtain ⟨c0, c1, c2, c3⟩ := s4c_of (HC.out _ _ _ h0)
  clear h0
  refine callsIn_of_wp Tryz.func182 rfl trivial ?_ rfl
  simp only [Tryz.ntmps182, List.size_toArray, List.length_cons, List.length_nil, Nat.reduceAdd, Nat.reduceSub, Array.replicate_succ, Array.replicate_zero, List.push_toArray, List.append_toArray, List.nil_append, List.cons_append]
  gi_wp2
  refine ⟨trivial, fun _ => by omega, ?_⟩
  refine (callsIn_wide.2 (HNx0.out W)).mono ?_
  rintro e w1 ⟨rfl, k1⟩
  have HJ1 : Hid (J none [] w1) := HJ.out _ _ _ _ _ H0.out (grownBy_below k1 none) (.inl rfl)
  have z1 := k1.size
  clear k1 c0 c1 c2 c3 HNx0
  gi_wp2
  have HJ2 : Hid (J (some w1.heap.size) [] (w1.alloc (.cells #[.int .i64 (d : Int), .int .i64 (r : Int), .int .i64 ((t 0).1 : Int), .int .i64 ((t 0).2 : Int)] 110))) :=
    HJ.out _ _ _ _ _ HJ1.out (World.grownBy_alloc _ _ none) (.inr ⟨_, rfl, Nat.le_refl _⟩)
  have HC2 : Hid (Cl w1.heap.size (sgc d r (t 0).1 (t 0).2) 110 (w1.alloc (.cells #[.int .i64 (d : Int), .int .i64 (r : Int), .int .i64 ((t 0).1 : Int), .int .i64 ((t 0).2 : Int)] 110))) := Cl.new (sgc d r (t 0).1 (t 0).2) _ w1
  gi_loopg [3] N (fun k pv wx => ∃ (i g : Nat), pv = .pointer (some ⟨g, 0, none⟩) ∧ i + k = N ∧ 1 ≤ k ∧ Hid (J (some g) (kl r t i) wx ∧ Cl g (sgc d r (t i).1 (t i).2) 110 wx ∧ W.heap.size ≤ g))
  case atStart => exact ⟨0, w1.heap.size, rfl, by omega, hN, HJ2.out, HC2.out, z1⟩
  case round =>
    clear HJ2 HC2 HJ1 H0
    obtain ⟨i, g, rfl, hik, hk1, HR⟩ := hrel
    have hC := HC.out _ _ _ HR.out.1
    obtain ⟨p, hp⟩ : ∃ p, p = (t i).1 := ⟨_, rfl⟩
    obtain ⟨q, hq⟩ : ∃ q, q = (t i).2 := ⟨_, rfl⟩
    have hCg := HR.out.2.1
    rw [← hp, ← hq] at hCg
    have hgl := hCg.lt
    have hn1 := HS.out.step i
    rw [← hp, ← hq] at hn1
    have HQt : Hid (∀ W, Calls Tryz.prog 183 #[.agg #[.int .i64 (d : Int), .int .i64 (r : Int), .int .i64 (p : Int), .int .i64 (q : Int)]] W fun e w' => e = .returned (.int .i64 ((kth r t i : Nat) : Int)) ∧ Below W.heap.size W w') := fun W => by
      have := quotient_any d r p q W (by have := hn1.hp; omega) (by have := hn1.hr; omega) hn1.hq (by have := hn1.hq2; omega)
      unfold kth; rw [← hp, ← hq]; exact this
    have HP : Hid (p = (t i).1) := hp
    have HQ : Hid (q = (t i).2) := hq
    have HN1 : Hid (Nx d r p q (t (i + 1)).1 (t (i + 1)).2) := hn1
    obtain ⟨e0, e1, e2, e3⟩ := s4c_of hCg
    have HCg : Hid (Cl g (sgc d r p q) 110 wr) := hCg
    clear hp hq hn1 hCg hC
    gi_wp2
    refine ⟨trivial, fun _ => by omega, ?_⟩
    refine (callsIn_wide.2 (HQt.out wr)).mono ?_
    rintro e w2 ⟨rfl, k2⟩
    have z2 := k2.size
    have HJ3 : Hid (J (some g) (kl r t i) w2) := HJ.out _ _ _ _ _ HR.out.1 (grownBy_below k2 _) (.inl rfl)
    have HC3 : Hid (Cl g (sgc d r p q) 110 w2) := HCg.out.below k2
    obtain ⟨fn, tmps, assign, body, hy, hRd⟩ := HY.out _ (kl r t i) (kth r t i) w2 HJ3.out (fun g' e => by cases e; exact ⟨HR.out.2.2, by omega⟩) (by have := HR.out.2.2; omega) (by rw [← kl_succ]; exact kl_prefix r t (by omega))
    clear k2 e0 e1 e2 e3
    gi_wp2
    refine ⟨fun _ => by omega, hRd.mono ?_⟩
    rintro e W' (⟨rfl, hJ', zk, hk'⟩ | ⟨rfl, hJx'⟩)
    · have hC4 := HC.out _ _ _ hJ'
      have hG4 : Cl g (sgc d r p q) 110 W' := (hk' g rfl).trans HC3.out
      obtain ⟨e0, e1, e2, e3⟩ := s4c_of hG4
      have c3 := (s4c_of hC4).2.2.2
      have HJ4 : Hid (J (some g) (kl r t (i + 1)) W') := by
        have := hJ'
        rw [← kl_succ] at this; exact this
      have HG4 : Hid (Cl g (sgc d r p q) 110 W') := hG4
      clear hJ' hk' hC4 hG4 hRd hy
      by_cases hqq : q = q0
      · have hqb : ((q : Int) == (q0 : Int)) = true := beq_iff_eq.2 (by omega)
        have hiN : i = N - 1 := by
          rcases Nat.lt_or_ge i (N - 1) with h | h
          · exact absurd (by rw [← HQ.out]; exact hqq) (HNE.out i h)
          · omega
        have hfin : fin = true := by
          cases fin
          · exact absurd (by rw [← hiN, ← HQ.out]; exact hqq) (HNF.out rfl)
          · rfl
        have HFin : Hid (fin = true ∧ i + 1 = N) := ⟨hfin, by omega⟩
        clear hqq hiN hfin
        gi_wp2
        exact bodyPost_ret (results_none rfl _ _ _) rfl ⟨⟨_, rfl⟩, .inl ⟨HFin.out.1, some g, by have := HJ4.out; rw [HFin.out.2] at this; exact this⟩⟩
      · have hqb : ((q : Int) == (q0 : Int)) = false := beq_eq_false_iff_ne.2 (by omega)
        have hiN : i + 1 < N := by
          rcases Nat.lt_or_ge (i + 1) N with h | h
          · exact h
          · exfalso
            have hi1 : i = N - 1 := by omega
            cases hfv : fin
            · have := HJ4.out
              rw [show i + 1 = N by omega] at this
              exact HEnd.out hfv _ _ this
            · exact hqq (by rw [HQ.out, hi1]; exact HF.out hfv)
        clear hqq
        have HNc : Hid (∀ W, Calls Tryz.prog 135 #[.agg #[.int .i64 (d : Int), .int .i64 (r : Int), .int .i64 (p : Int), .int .i64 (q : Int)]] W fun e w' => e = .returned (.agg #[.int .i64 (d : Int), .int .i64 (r : Int), .int .i64 ((t (i + 1)).1 : Int), .int .i64 ((t (i + 1)).2 : Int)]) ∧ Below W.heap.size W w') := fun W => HN1.out.call W
        gi_wp2
        refine ⟨trivial, fun _ => by omega, ?_⟩
        refine (callsIn_wide.2 (HNc.out _)).mono ?_
        rintro e w5 ⟨rfl, k5⟩
        have HJ5 : Hid (J (some W'.heap.size) (kl r t (i + 1)) w5) :=
          HJ.out _ _ _ _ _ (HJ.out _ _ _ _ _ HJ4.out (grownBy_more (World.grownBy_alloc _ _ none) _) (.inr ⟨_, rfl, Nat.le_refl _⟩)) (grownBy_below k5 _) (.inl rfl)
        have C5 := (Cl.new (sgc d r p q) 110 W').below k5
        obtain ⟨d0, d1, d2, d3⟩ := s4c_of C5
        have f0 := C5.frozen 0
        have f1 := C5.frozen 1
        have f2 := C5.frozen 2
        have f3 := C5.frozen 3
        have HC5 : Hid (Cl W'.heap.size (sgc d r p q) 110 w5) := C5
        have hgz : W.heap.size ≤ W'.heap.size := by have := HR.out.2.2; omega
        clear e0 e1 e2 e3 c3 k5 C5 HNc
        gi_wp2
        have G : ∀ (X : World) (o : Nat) (v : Value), J (some W'.heap.size) (kl r t (i + 1)) X → J (some W'.heap.size) (kl r t (i + 1)) (X.setCell ⟨W'.heap.size, o, none⟩ v) := fun X o v h => HJ.out _ _ _ _ _ h (grownBy_setCell X _ o v) (.inl rfl)
        gi_roundg (gk - 1)
        case rel =>
          refine ⟨i + 1, W'.heap.size, rfl, by omega, by omega, G _ _ _ (G _ _ _ (G _ _ _ (G _ _ _ HJ5.out))), ?_, hgz⟩
          exact (((HC5.out.set 0 (.int .i64 (d : Int))).set 1 (.int .i64 (r : Int))).set 2 (.int .i64 ((t (i + 1)).1 : Int))).set 3 (.int .i64 ((t (i + 1)).2 : Int))
        case measure => omega
    · gi_wp2
      exact bodyPost_ret (results_none rfl _ _ _) rfl ⟨⟨_, rfl⟩, .inr ⟨_, _, hJx'⟩⟩

end Go.Proofs.YtfbgblidlabipaaGreatDoor
end

section
/- The program: cont.part, cycle, normAfter. -/
set_option linter.unusedSimpArgs false
set_option linter.unusedVariables false
set_option maxRecDepth 100000
namespace Go.Proofs.YtfbgblidlabipaaGreatDoor
open Go.RowKit
attribute [local go_sem] Oper.semAt_some

set_option maxHeartbeats 1000000 in
theorem part_any (d r p q : Nat) (w : World) :
    Calls Tryz.prog 133 #[sgv d r p q] w fun e w' => e = .returned (.func (.func 182) #[] #[.pointer (some ⟨w.heap.size, 0, none⟩)]) ∧ w' = w.alloc (.cells #[.int .i64 (d : Int), .int .i64 (r : Int), .int .i64 (p : Int), .int .i64 (q : Int)] 110) := by
  unfold sgv
  go_enter Tryz.func133, Tryz.ntmps133
  go_wp2
  go_ret
  exact ⟨rfl, rfl⟩

theorem normAfter_any (a : Option Addr) (n c : Nat) (w : World) (hn : n ≤ 1000000) :
    Calls Tryz.prog 74 #[.slice a n c] w fun e w' => e = .returned (.int .i64 (CfM.sgn n)) ∧ w' = w := by
  obtain ⟨m, hm⟩ : ∃ m : Nat, (n : Int) % 2 = (m : Int) := ⟨n % 2, by omega⟩
  by_cases h : n % 2 = 0
  · have hm0 : ((m : Int) == 0) = true := beq_iff_eq.2 (by omega)
    have e : CfM.sgn n = 1 := by unfold CfM.sgn; rw [if_pos h]
    rw [e]
    clear h
    go_enter Tryz.func74, Tryz.ntmps74
    go_wp2
    go_ret
    exact ⟨rfl, rfl⟩
  · have hm0 : ((m : Int) == 0) = false := beq_eq_false_iff_ne.2 (by omega)
    have e : CfM.sgn n = -1 := by unfold CfM.sgn; rw [if_neg h]
    rw [e]
    clear h
    go_enter Tryz.func74, Tryz.ntmps74
    go_wp2
    go_ret
    exact ⟨rfl, rfl⟩

/-- The two answers' boxes, empty; the list's box and its row; what was captured. -/
structure CS (h d r p q : Nat) (w : World) (pre : List Nat) (o : Option Nat) (W : World) : Prop where
  v : Cl (h + 1) [.slice none 0 0] 80 W
  f : Cl (h + 2) [.int .i64 0, .int .i64 0] 25 W
  l : ∃ a c, Cl (h + 3) [.slice a pre.length c] 80 W ∧ W.ownsRow (h + 7) 3 1 (.slice a pre.length c) pre.length (ints (nz pre)) ∧ ∀ g, (Value.slice a pre.length c).ownBlock = some g → o ≠ some g
  s : Cl (h + 4) (sgc d r p q) 110 W
  b : Below h w W
  o : ow (h + 5) o W
  n : pre.length ≤ 1000

theorem CS.step {h d r p q : Nat} {w : World} {pre : List Nat} {o o' : Option Nat} {W W' : World} (s : CS h d r p q w pre o W) (hg : W.grownBy W' o) (ho : o' = o ∨ ∃ g, o' = some g ∧ W.heap.size ≤ g) : CS h d r p q w pre o' W' := by
  obtain ⟨a, c, h1, h2, h3⟩ := s.l
  refine ⟨s.v.grown hg (s.o.ne (by omega)), s.f.grown hg (s.o.ne (by omega)), ⟨a, c, h1.grown hg (s.o.ne (by omega)), row_kept h2 (fun g e => hg.block g (h2.lt g e).2 (fun e2 => h3 g e e2.symm)), ?_⟩, s.s.grown hg (s.o.ne (by omega)), s.b.grown hg (by have := s.o.1; omega) (fun k e => by have := s.o.2 k e; omega), s.o.step hg ho, s.n⟩
  intro g e
  rcases ho with h4 | ⟨g2, h4, h5⟩
  · rw [h4]; exact h3 g e
  · rw [h4]; intro e2; cases e2; have := (h2.lt g e).2; omega

theorem Cl.put {b l : Nat} {c : List Value} {t : TypeId} {W : World} (h : Cl b c t W) (ob : Obj) (hl : b ≠ l) : Cl b c t (W.putObj l ob) := (World.putObj_heap_other hl).trans h

theorem CS.put {h d r p q : Nat} {w : World} {pre : List Nat} {o : Option Nat} {W : World} (s : CS h d r p q w pre o W) (ob : Obj) (k : Nat) (hk : k = h + 5 ∨ k = h + 6) : CS h d r p q w pre o (W.putObj k ob) := by
  obtain ⟨a, c, h1, h2, h3⟩ := s.l
  exact ⟨s.v.put ob (by omega), s.f.put ob (by omega), ⟨a, c, h1.put ob (by omega), row_kept h2 (fun g e => World.putObj_heap_other (by have := (h2.lt g e).1; omega)), h3⟩, s.s.put ob (by omega), s.b.grown (grownBy_putObj' W _ ob) (by have := s.o.1; omega) (fun k e => by cases e; omega), s.o.put ob, s.n⟩

theorem ownsRow_cap {w : World} {B e n c : Nat} {a : Option Addr} {xs : List Value} (h : w.ownsRow B e 1 (.slice a n c) n xs) : n ≤ c := by
  obtain ⟨_, ⟨h1, h2⟩ | ⟨g, cap, cur, h3, h4, h5, h6, h7, _⟩⟩ := h
  · omega
  · simp only [Value.slice.injEq] at h3
    obtain ⟨_, _, h8⟩ := h3
    omega

/-- What cycle answers. -/
def CyPost (r : Nat) (t : Nat → Nat × Nat) (N : Nat) (w : World) (e : Ending) (w' : World) : Prop :=
  Below w.heap.size w w' ∧ ((N ≤ 1000 ∧ ∃ a c, e = .returned (.tuple #[.slice a N c, .agg #[.int .i64 0, .int .i64 0]]) ∧ w'.ownsRow w.heap.size 3 1 (.slice a N c) N (ints (nz (kl r t N)))) ∨ (1000 < N ∧ e = .returned (.tuple #[.slice none 0 0, .agg #[.int .i64 9, .int .i64 0]])))

set_option maxHeartbeats 8000000 in
theorem cycle_any (d r p0 q0 N : Nat) (t : Nat → Nat × Nat) (hs : Sq d r p0 q0 t) (fin : Bool) (hN : 1 ≤ N) (hN2 : N ≤ 1001) (hf : fin = true → (t (N - 1)).2 = q0) (hne : ∀ i, i < N - 1 → (t i).2 ≠ q0) (hnf : fin = false → (t (N - 1)).2 ≠ q0) (hfN : fin = false → N = 1001) (w : World) :
    Calls Tryz.prog 71 #[sgv d r p0 q0] w (CyPost r t N w) := by
  obtain ⟨i0, hi, hz0, hz1, hz2⟩ := info_parts Tryz.infoInt
  have HI : Hid (Tryz.prog.info? 3 = some i0 ∧ i0.zero = some (.int .i64 0) ∧ i0.size = 1 ∧ i0.bytes = 8) := ⟨hi, hz0, hz1, hz2⟩
  have HPY := fun b n hn => part_yields d r p0 q0 b N t hs fin hN hf hne hnf n hn
  have HFN : Hid (fin = false → N = 1001) := hfN
  have HPart : Hid (∀ w, Calls Tryz.prog 133 #[.agg #[.int .i64 (d : Int), .int .i64 (r : Int), .int .i64 (p0 : Int), .int .i64 (q0 : Int)]] w fun e w' => e = .returned (.func (.func 182) #[] #[.pointer (some ⟨w.heap.size, 0, none⟩)]) ∧ w' = w.alloc (.cells #[.int .i64 (d : Int), .int .i64 (r : Int), .int .i64 (p0 : Int), .int .i64 (q0 : Int)] 110)) := fun w => part_any d r p0 q0 w
  clear hi hz0 hz1 hz2 hs hf hne hnf hfN
  unfold sgv
  refine (callsIn_wide (n := 6)).1 ?_
  refine callsIn_of_wp_marks Tryz.func71 rfl trivial ?_ rfl
  simp only [Tryz.ntmps71, List.size_toArray, List.length_cons, List.length_nil, Nat.reduceAdd, Nat.reduceSub, Array.replicate_succ, Array.replicate_zero, List.push_toArray, List.append_toArray, List.nil_append, List.cons_append]
  gi_wp2
  refine ⟨trivial, ?_⟩
  refine (callsIn_wide.2 (HPart.out _)).mono ?_
  rintro e w1 ⟨rfl, hw1⟩
  obtain ⟨W0, hW0⟩ : ∃ W0, W0 = ((((w.alloc (.cells #[.int .i64 (d : Int), .int .i64 (r : Int), .int .i64 (p0 : Int), .int .i64 (q0 : Int)] 110)).alloc (.cells #[.slice none 0 0] 80)).alloc (.cells #[.int .i64 0, .int .i64 0] 25)).alloc (.cells #[.slice none 0 0] 80)) := ⟨_, rfl⟩
  rw [← hW0] at hw1 ⊢
  have z0 : W0.heap.size = w.heap.size + 4 := by rw [hW0]; simp
  have z1 : w1.heap.size = w.heap.size + 5 := by rw [hw1, World.size_alloc, z0]
  have C0 : CS w.heap.size d r p0 q0 w [] none w1 := by
    have k0 : Below w.heap.size w W0 := by rw [hW0]; exact ((((Below.refl _ _).alloc (Nat.le_refl _) _).alloc (by simp) _).alloc (by simp; omega) _).alloc (by simp; omega) _
    have v0 : Cl (w.heap.size + 1) [.slice none 0 0] 80 W0 := by
      rw [hW0]
      have := ((Cl.new [.slice none 0 0] 80 (w.alloc (.cells #[.int .i64 (d : Int), .int .i64 (r : Int), .int .i64 (p0 : Int), .int .i64 (q0 : Int)] 110))).alloc (.cells #[.int .i64 0, .int .i64 0] 25)).alloc (.cells #[.slice none 0 0] 80)
      rw [World.size_alloc] at this
      exact this
    have f0 : Cl (w.heap.size + 2) [.int .i64 0, .int .i64 0] 25 W0 := by
      rw [hW0]
      have := ((Cl.new [.int .i64 0, .int .i64 0] 25 ((w.alloc (.cells #[.int .i64 (d : Int), .int .i64 (r : Int), .int .i64 (p0 : Int), .int .i64 (q0 : Int)] 110)).alloc (.cells #[.slice none 0 0] 80)))).alloc (.cells #[.slice none 0 0] 80)
      rw [World.size_alloc, World.size_alloc] at this
      exact this
    have l0 : Cl (w.heap.size + 3) [.slice none 0 0] 80 W0 := by
      rw [hW0]
      have := (Cl.new [.slice none 0 0] 80 (((w.alloc (.cells #[.int .i64 (d : Int), .int .i64 (r : Int), .int .i64 (p0 : Int), .int .i64 (q0 : Int)] 110)).alloc (.cells #[.slice none 0 0] 80)).alloc (.cells #[.int .i64 0, .int .i64 0] 25)))
      rw [World.size_alloc, World.size_alloc, World.size_alloc] at this
      exact this
    have s0 : Cl (w.heap.size + 4) (sgc d r p0 q0) 110 w1 := by
      rw [hw1, ← z0]; exact Cl.new (sgc d r p0 q0) _ W0
    refine ⟨?_, ?_, ⟨none, 0, ?_, World.ownsRow_nil _ _ _ _, fun g e => by simp⟩, s0, ?_, ⟨by omega, fun g e => by cases e⟩, by simp⟩
    · rw [hw1]; exact v0.alloc _
    · rw [hw1]; exact f0.alloc _
    · rw [hw1]; exact l0.alloc _
    · rw [hw1]; exact k0.alloc (by omega) _
  rw [z0]
  clear hW0 hw1 z0 HPart
  clear W0
  gi_wp2
  have HPY6 := HPY (w.heap.size + 4) (6 - 1) (by decide)
  clear HPY
  refine wpIn_rangeE (F := Fence.wide) (n := 6) rfl (by decide) (gf := 182) (lb := #[.pointer (some ⟨w.heap.size + 4, 0, none⟩)]) rfl trivial (enters_of Tryz.func182 (by kernel_rfl) rfl) HPY6 (fun _ => rfl)
    (fun o pre W => CS w.heap.size d r p0 q0 w pre o W)
    (fun c o pre W => c = .ret ∧ 1000 < N ∧ Cl (w.heap.size + 1) [.slice none 0 0] 80 W ∧ Cl (w.heap.size + 2) [.int .i64 9, .int .i64 0] 25 W ∧ Below w.heap.size w W)
    ?ab ?abp ?abx (fun o s W h => h.s) C0
    (fun x => { tmps := #[.agg #[.int .i64 (d : Int), .int .i64 (r : Int), .int .i64 (p0 : Int), .int .i64 (q0 : Int)], .pointer (some ⟨w.heap.size, 0, none⟩), .pointer (some ⟨w.heap.size + 1, 0, none⟩), .pointer (some ⟨w.heap.size + 2, 0, none⟩), .pointer (some ⟨w.heap.size + 3, 0, none⟩), .int .i64 (x : Int), .agg #[.int .i64 (d : Int), .int .i64 (r : Int), .int .i64 (p0 : Int), .int .i64 (q0 : Int)], .func (.func 182) #[] #[.pointer (some ⟨w.heap.size + 4, 0, none⟩)], .int .i64 (x : Int), undef, undef, undef, undef, undef, undef, undef, undef, undef, undef], defers := [] }) ?assign ?body ?hend ?done ?stop
  case ab => exact fun o s A B o' h hg ho => h.step hg ho
  case abp => exact fun o s A ob h => h.put ob _ (by omega)
  case abx =>
    rintro c o s A ob ⟨h0, h1, h2, h3, h4⟩
    exact ⟨h0, h1, h2.put ob (by omega), h3.put ob (by omega), h4.grown (grownBy_putObj' _ _ _) h4.size (fun k e => by cases e; omega)⟩
  case assign =>
    intro l x W K hK
    gi_wp2
    exact hK
  case hend =>
    intro hf o W h
    have := h.n
    rw [kl_len] at this
    have := HFN.out hf
    omega
  case body =>
    rintro l o pre x W hst hog hpre hz
    obtain ⟨n, hn⟩ : ∃ n, n = pre.length := ⟨_, rfl⟩
    have hnN : n + 1 ≤ N := by have := hpre.length_le; rw [kl_len] at this; simp at this; omega
    have hn1 : n ≤ 1000 := by rw [hn]; exact hst.n
    obtain ⟨a, c, h1, h2, h3⟩ := hst.l
    rw [← hn] at h1 h2 h3
    have q1 := h1.cell 0
    have q2 := h1.frozen 0
    have q3 := hst.v.cell 0
    have q4 := hst.v.frozen 0
    have q5 := hst.f.cell 0
    have q6 := hst.f.cell 1
    have q7 := hst.f.frozen 0
    have q8 := hst.f.frozen 1
    simp at q1 q3 q5 q6
    have HST : Hid (CS w.heap.size d r p0 q0 w pre o W) := hst
    have HV : Hid (Cl (w.heap.size + 3) [.slice a n c] 80 W) := h1
    have HROW : Hid (W.ownsRow (w.heap.size + 7) 3 1 (.slice a n c) n (ints (nz pre))) := h2
    have HNO : Hid (∀ g, (Value.slice a n c).ownBlock = some g → o ≠ some g) := h3
    have HOG : Hid (∀ g, o = some g → w1.heap.size + 2 ≤ g ∧ g < W.heap.size) := hog
    have HNn : Hid (n = pre.length) := hn
    have HPre : Hid (pre ++ [x] <+: kl r t N) := hpre
    clear h1 h2 h3 hst hn hog hpre
    by_cases hb : n = 1000
    · subst hb
      gi_wp2
      have NK : ∀ k, k < w.heap.size + 5 → ¬ keptE w1.heap.size o k := by
        rintro k hk (e | e | e)
        · omega
        · omega
        · have := (HOG.out k e).1; omega
      refine ⟨(((KP.refl _ W).setCell (NK _ (by simp)) _).setCell (NK _ (by simp)) _).setCell (NK _ (by simp)) _, rfl, by omega, ?_, ?_, ?_⟩
      · have h := HST.out.v.set 0 (.slice none 0 0)
        exact (h.other (p := ⟨w.heap.size + 2, 0, none⟩) (by simp) _).other (p := ⟨w.heap.size + 2, 1, none⟩) (by simp) _
      · have h := HST.out.f.other (p := ⟨w.heap.size + 1, 0, none⟩) (by simp) (.slice none 0 0)
        exact (h.set 0 (.int .i64 9)).set 1 (.int .i64 0)
      · exact ((HST.out.b.setCell (by simp) _).setCell (by simp) _).setCell (by simp) _
    · have hbb : ((n : Int) == 1000) = false := beq_eq_false_iff_ne.2 (by omega)
      clear q3 q4 q5 q6 q7 q8
      gi_wp2_with (gi_at_builtin; refine wpListIn_append_own_at _ rfl _ _ 80 rfl (w.heap.size + 7) 3 i0 (.int .i64 0) 1 8 Tryz.underlying80 HI.out.1 HI.out.2.1 HI.out.2.2.1 HI.out.2.2.2 rfl (by decide) (.slice a n c) n (ints (nz pre)) rfl (HROW.out.alloc _) ⟨W.heap.size, 0, none⟩ 1 1 [.int .i64 (x : Int)] rfl rfl (cell_one_new _ _ _) (by simp [Value.oneCell']) (by simp only [maxLen]; omega) (by omega) (by simp; omega) ?_; intro v' w2 hown' hgrow _ hob; obtain ⟨g', cap', rfl⟩ := ownsRow_succ hown'; have hnb : ∀ b, b < w.heap.size + 7 → (Value.slice a n c).ownBlock ≠ some b := fun b hb e => by { have := (HROW.out.lt b e).1; omega }; have A1 : Cl (w.heap.size + 3) [.slice a n c] 80 w2 := (HV.out.alloc _).grown hgrow (hnb _ (by omega)); have r1 := A1.cell 0; have r2 := A1.frozen 0; simp at r1)
      have NK : ∀ k, k < w.heap.size + 5 → ¬ keptE w1.heap.size o k := by
        rintro k hk (e | e | e)
        · omega
        · omega
        · have := (HOG.out k e).1; omega
      have hzW := HST.out.o.1
      have hA2 := A1.set 0 (.slice (some ⟨g', 0, none⟩) (n + 1) cap')
      have G : ∀ k, k < w.heap.size + 7 → k ≠ w.heap.size + 3 → k < W.heap.size → (w2.setCell ⟨w.heap.size + 3, 0, none⟩ (.slice (some ⟨g', 0, none⟩) (n + 1) cap')).heap[k]? = W.heap[k]? := fun k h1 h2 h3 => by
        rw [Below.heap_setCell _ _ _ _ h2, hgrow.block k (by simp; omega) (fun e => hnb k h1 e.symm)]
        exact Below.heap_alloc _ _ _ h3
      refine ⟨?_, ?_⟩
      · refine (((KP.refl _ W).alloc _).grown hgrow (fun g e h => ?_)).setCell (NK _ (by simp)) _
        have h5 := (HROW.out.lt g e).1
        rcases h with h | h | h
        · omega
        · omega
        · exact HNO.out g e h
      · have hlen : (pre ++ [x]).length = n + 1 := by rw [HNn.out]; simp
        refine ⟨(G _ (by omega) (by omega) (by omega)).trans HST.out.v, (G _ (by omega) (by omega) (by omega)).trans HST.out.f, ⟨some ⟨g', 0, none⟩, cap', ?_, ?_, ?_⟩, (G _ (by omega) (by omega) (by omega)).trans HST.out.s, ?_, ?_, by omega⟩
        · rw [hlen]; exact hA2
        · rw [hlen]
          have e : ints (nz (pre ++ [x])) = ints (nz pre) ++ [.int .i64 (x : Int)] := by rw [nz_append, ints_snoc]; rfl
          rw [e]
          exact ownsRow_setCell_below hown' (by show w.heap.size + 3 < _; omega) _
        · rw [hlen]
          intro g e e2
          have e3 : (Value.slice (some ⟨g', 0, none⟩) (n + 1) cap').ownBlock = some g := e
          rcases hob with h | h
          · exact HNO.out g (h ▸ e3) e2
          · rw [h] at e3
            have h5 := (HOG.out g e2).2
            simp at e3
            omega
        · exact ((HST.out.b.alloc (by omega) _).grown hgrow (by simp; omega) (fun k e => by have := (HROW.out.lt k e).1; omega)).setCell (by simp) _
        · refine HST.out.o.size ?_
          have := hgrow.size
          simp [World.setCell] at this ⊢
          omega
  case done =>
    rintro hf o W hst hK
    obtain ⟨a, c, h1, h2, h3⟩ := hst.l
    have hnN : N ≤ 1000 := by have := hst.n; rw [kl_len] at this; exact this
    rw [kl_len] at h1 h2 h3
    have q1 := h1.cell 0
    have q3 := hst.v.cell 0
    have q4 := hst.v.frozen 0
    have q5 := hst.f.cell 0
    have q6 := hst.f.cell 1
    have q7 := hst.f.frozen 0
    have q8 := hst.f.frozen 1
    simp at q1 q3 q5 q6
    have HST : Hid (CS w.heap.size d r p0 q0 w (kl r t N) o W) := hst
    have HROW : Hid (W.ownsRow (w.heap.size + 7) 3 1 (.slice a N c) N (ints (nz (kl r t N)))) := h2
    have HK : Hid (W.heap[w1.heap.size]? = some (.deferred (some []))) := hK
    clear h1 h2 h3 hst hK
    gi_wp2
    generalize hWF : ((W.setCell ⟨w.heap.size + 1, 0, none⟩ (.slice a N c)).setCell ⟨w.heap.size + 1 + 1, 0, none⟩ (.int .i64 0)).setCell ⟨w.heap.size + 1 + 1, 1, none⟩ (.int .i64 0) = WF
    have hv : Cl (w.heap.size + 1) [.slice a N c] 80 WF := by
      rw [← hWF]
      have h := HST.out.v.set 0 (.slice a N c)
      exact (h.other (p := ⟨w.heap.size + 2, 0, none⟩) (by simp) _).other (p := ⟨w.heap.size + 2, 1, none⟩) (by simp) _
    have hfl : Cl (w.heap.size + 2) [.int .i64 0, .int .i64 0] 25 WF := by
      rw [← hWF]
      have h := HST.out.f.other (p := ⟨w.heap.size + 1, 0, none⟩) (by simp) (.slice a N c)
      exact (h.set 0 (.int .i64 0)).set 1 (.int .i64 0)
    have hB : Below w.heap.size w WF := by rw [← hWF]; exact ((HST.out.b.setCell (by simp) _).setCell (by show w.heap.size ≤ w.heap.size + 1 + 1; omega) _).setCell (by show w.heap.size ≤ w.heap.size + 1 + 1; omega) _
    have hR : WF.ownsRow (w.heap.size + 7) 3 1 (.slice a N c) N (ints (nz (kl r t N))) := by
      rw [← hWF]
      exact ownsRow_setCell_below (ownsRow_setCell_below (ownsRow_setCell_below HROW.out (by show w.heap.size + 1 < _; omega) _) (by show w.heap.size + 2 < _; omega) _) (by show w.heap.size + 2 < _; omega) _
    have hK1 : WF.heap[w1.heap.size]? = some (.deferred (some [])) := by
      rw [← hWF, Below.heap_setCell _ _ _ _ (by simp; omega), Below.heap_setCell _ _ _ _ (by simp; omega), Below.heap_setCell _ _ _ _ (by simp; omega)]; exact HK.out
    clear hWF q1 q3 q4 q5 q6 q7 q8
    have hv2 := (hv.put (.deferred none) (show w.heap.size + 1 ≠ w1.heap.size by omega)).cell 0
    have hf2 := (hfl.put (.deferred none) (show w.heap.size + 2 ≠ w1.heap.size by omega)).cell 0
    have hf3 := (hfl.put (.deferred none) (show w.heap.size + 2 ≠ w1.heap.size by omega)).cell 1
    simp at hv2 hf2 hf3
    refine ⟨by simp, .inl ⟨_, _, rfl, run_takeDeferred hK1, ?_⟩⟩
    refine ⟨.tuple #[.slice a N c, .agg #[.int .i64 0, .int .i64 0]], by simp [results, Tryz.results71, go_sem, hv2, hf2, hf3], hB.grown (grownBy_putObj' _ _ _) hB.size (fun k e => by cases e; omega), .inl ⟨hnN, a, c, rfl, ?_⟩⟩
    exact ownsRow_lower (B := w.heap.size + 7) (row_kept hR (fun g e => World.putObj_heap_other (by have := (hR.lt g e).1; omega))) (by omega)
  case stop =>
    rintro c o pre W ⟨rfl, h1, h2, h3, h4⟩ hK
    gi_wp2
    have hv2 := (h2.put (.deferred none) (show w.heap.size + 1 ≠ w1.heap.size by omega)).cell 0
    have hf2 := (h3.put (.deferred none) (show w.heap.size + 2 ≠ w1.heap.size by omega)).cell 0
    have hf3 := (h3.put (.deferred none) (show w.heap.size + 2 ≠ w1.heap.size by omega)).cell 1
    simp at hv2 hf2 hf3
    refine ⟨by simp, .inl ⟨_, _, rfl, run_takeDeferred hK, ?_⟩⟩
    exact ⟨.tuple #[.slice none 0 0, .agg #[.int .i64 9, .int .i64 0]], by simp [results, Tryz.results71, go_sem, hv2, hf2, hf3], h4.grown (grownBy_putObj' _ _ _) h4.size (fun k e => by cases e; omega), .inr ⟨h1, rfl⟩⟩

end Go.Proofs.YtfbgblidlabipaaGreatDoor
end

section
/- Plain: Euclid's quotients, and what a list of them comes to. -/
set_option linter.unusedSimpArgs false
set_option linter.unusedVariables false
set_option maxRecDepth 100000
namespace Go.Proofs.YtfbgblidlabipaaGreatDoor.CnQ

/-- Euclid's states: what is divided, and by what. -/
def es (a b : Int) : Nat → Int × Int
  | 0 => (a, b)
  | i + 1 => ((es a b i).2, (es a b i).1 % (es a b i).2)
def kq (a b : Int) (i : Nat) : Int := (es a b i).1 / (es a b i).2
def ek (a b : Int) (n : Nat) : List Int := (List.range n).map (kq a b)
theorem ek_succ (a b : Int) (n : Nat) : ek a b (n + 1) = ek a b n ++ [kq a b n] := by simp [ek, List.range_succ]
theorem ek_len (a b : Int) (n : Nat) : (ek a b n).length = n := by simp [ek]
theorem ek_prefix (a b : Int) {m n : Nat} (h : m ≤ n) : ek a b m <+: ek a b n := by
  induction n with
  | zero => obtain rfl : m = 0 := by omega
            exact List.prefix_refl _
  | succ n ih =>
    by_cases e : m = n + 1
    · subst e; exact List.prefix_refl _
    · rw [ek_succ]; exact (ih (by omega)).trans (List.prefix_append _ _)
theorem ek_prefix_len (a b : Int) {n : Nat} {pre : List Int} (h : pre <+: ek a b n) : pre = ek a b pre.length := by
  have h1 := h.length_le
  rw [ek_len] at h1
  exact List.IsPrefix.eq_of_length (List.prefix_of_prefix_length_le h (ek_prefix a b h1) (by rw [ek_len]; exact Nat.le_refl _)) (by rw [ek_len])

/-- N is where the way ends. -/
structure En (a b : Int) (N : Nat) : Prop where
  b0 : 0 < b
  pos : ∀ i, i < N → 0 < (es a b i).2
  zero : (es a b N).2 = 0
theorem En.one {a b : Int} {N : Nat} (h : En a b N) : 1 ≤ N := by
  rcases Nat.eq_zero_or_pos N with e | e
  · subst e; have := h.zero; have := h.b0; simp [es] at *; omega
  · exact e
theorem En.step {a b : Int} {N : Nat} (h : En a b N) {i : Nat} (hi : i < N) : (es a b (i + 1)).1 = (es a b i).2 ∧ (es a b (i + 1)).2 = (es a b i).1 % (es a b i).2 ∧ 0 ≤ (es a b (i + 1)).2 ∧ (es a b (i + 1)).2 < (es a b i).2 := by
  have := h.pos i hi
  exact ⟨rfl, rfl, Int.emod_nonneg _ (by omega), Int.emod_lt_of_pos _ this⟩
theorem En.up {a b : Int} {N : Nat} (h : En a b N) {i : Nat} (hi : i < N) (h0 : 0 < i) : (es a b i).2 < (es a b i).1 ∧ (es a b i).1 ≤ b := by
  induction i with
  | zero => omega
  | succ i ih =>
    have s := h.step (i := i) (by omega)
    refine ⟨by rw [s.1]; exact s.2.2.2, ?_⟩
    rw [s.1]
    rcases Nat.eq_zero_or_pos i with e | e
    · subst e; simp [es]
    · have := ih (by omega) e; omega
theorem En.down_le {a b : Int} {N : Nat} (h : En a b N) {i : Nat} (hi : i ≤ N) : 0 ≤ (es a b i).2 ∧ (es a b i).2 ≤ b := by
  induction i with
  | zero => have := h.b0; simp [es]; omega
  | succ i ih => have s := h.step (i := i) (by omega); have := ih (by omega); omega
/-- The halves. -/
theorem half (n : Nat) : ∀ (a b : Int), 0 < b → b < 2 ^ n → ∃ N, N ≤ 2 * n ∧ En a b N := by
  induction n with
  | zero => intro a b h1 h2; simp at h2; omega
  | succ n ih =>
    intro a b h1 h2
    have m0 := Int.emod_nonneg a (show b ≠ 0 by omega)
    have m1 := Int.emod_lt_of_pos a h1
    by_cases c : a % b = 0
    · refine ⟨1, by omega, h1, fun i hi => ?_, ?_⟩
      · obtain rfl : i = 0 := by omega
        exact h1
      · simp [es]; exact c
    have c0 : 0 < a % b := by omega
    have r0 := Int.emod_nonneg b (show a % b ≠ 0 by omega)
    have r1 := Int.emod_lt_of_pos b c0
    by_cases d : b % (a % b) = 0
    · refine ⟨2, by omega, h1, fun i hi => ?_, ?_⟩
      · rcases i with _ | _ | i
        · exact h1
        · exact c0
        · omega
      · exact d
    have d0 : 0 < b % (a % b) := by omega
    have hl : b % (a % b) < 2 ^ n := by
      have e := Int.mul_ediv_add_emod b (a % b)
      have hq : 1 ≤ b / (a % b) := by
        have := Int.ediv_nonneg (show 0 ≤ b by omega) (show 0 ≤ a % b by omega)
        rcases Int.lt_or_le (b / (a % b)) 1 with h | h
        · have : b / (a % b) = 0 := by omega
          rw [this] at e; omega
        · exact h
      have := Int.mul_le_mul_of_nonneg_left hq (show 0 ≤ a % b by omega)
      rw [Int.pow_succ] at h2
      omega
    obtain ⟨N, hN, hE⟩ := ih (a % b) (b % (a % b)) d0 hl
    have sh : ∀ i, es a b (i + 2) = es (a % b) (b % (a % b)) i := by
      intro i
      induction i with
      | zero => rfl
      | succ i ih2 => rw [show es a b (i + 1 + 2) = ((es a b (i + 2)).2, (es a b (i + 2)).1 % (es a b (i + 2)).2) from rfl, ih2]; rfl
    refine ⟨N + 2, by omega, h1, fun i hi => ?_, ?_⟩
    · rcases i with _ | _ | i
      · exact h1
      · exact c0
      · rw [sh]; exact hE.pos i (by omega)
    · rw [sh]; exact hE.zero

/-- What a list comes to. -/
def cf : List Int → Int × Int
  | [] => (1, 0)
  | x :: r => (x * (cf r).1 + (cf r).2, (cf r).1)
theorem cf_pos (l : List Int) (h : ∀ x ∈ l, 1 ≤ x) : 1 ≤ (cf l).1 ∧ 0 ≤ (cf l).2 := by
  induction l with
  | nil => simp [cf]
  | cons x r ih =>
    have := ih (fun y hy => h y (by simp [hy]))
    have hx := h x (by simp)
    simp only [cf]
    have := Int.mul_le_mul_of_nonneg_right hx (show 0 ≤ (cf r).1 by omega)
    omega
theorem cf_low (l : List Int) : Nat.gcd (cf l).1.natAbs (cf l).2.natAbs = 1 := by
  induction l with
  | nil => simp [cf]
  | cons x r ih =>
    simp only [cf]
    have h : Int.gcd (x * (cf r).1 + (cf r).2) (cf r).1 = 1 := by
      rw [Int.gcd_comm, show x * (cf r).1 + (cf r).2 = (cf r).2 + (cf r).1 * x by rw [Int.mul_comm]; omega, Int.gcd_add_mul_left_right]; exact ih
    exact h

theorem cf_bound (l : List Int) (h : ∀ x ∈ l, x.natAbs ≤ 1000000000000000000) : (cf l).1.natAbs ≤ 18446744073709551616 ^ l.length ∧ (cf l).2.natAbs ≤ 18446744073709551616 ^ l.length := by
  induction l with
  | nil => simp [cf]
  | cons x r ih =>
    obtain ⟨h1, h2⟩ := ih (fun y hy => h y (by simp [hy]))
    have hx := h x (by simp)
    simp only [cf, List.length_cons, Nat.pow_succ]
    generalize 18446744073709551616 ^ r.length = B at *
    refine ⟨?_, by omega⟩
    have a1 := Int.natAbs_add_le (x * (cf r).1) (cf r).2
    rw [Int.natAbs_mul] at a1
    have a2 := Nat.mul_le_mul hx h1
    omega

/-- What is left of Euclid's list comes to what is left of the two. -/
theorem En.drop {a b : Int} {N : Nat} (h : En a b N) : ∀ k i, i + k + 1 = N → ∃ P Q, cf ((List.range' i (k + 1)).map (kq a b)) = (P, Q) ∧ P * (es a b i).2 = (es a b i).1 * Q ∧ 0 < Q ∧ (0 < i → 0 < P) := by
  intro k
  induction k with
  | zero =>
    intro i hi
    refine ⟨kq a b i, 1, by simp [cf], ?_, by omega, ?_⟩
    · have s := h.step (i := i) (by omega)
      have z := h.zero
      rw [show N = i + 1 by omega, s.2.1] at z
      have e := Int.mul_ediv_add_emod (es a b i).1 (es a b i).2
      rw [z] at e
      rw [Int.mul_one]
      unfold kq
      rw [Int.mul_comm]; omega
    · intro h0
      have u := h.up (i := i) (by omega) h0
      have p := h.pos i (by omega)
      unfold kq
      exact Int.ediv_pos_of_pos_of_dvd (by omega) (by omega) (by
        have s := h.step (i := i) (by omega)
        have z := h.zero
        rw [show N = i + 1 by omega, s.2.1] at z
        exact Int.dvd_of_emod_eq_zero z)
  | succ k ih =>
    intro i hi
    obtain ⟨P, Q, e1, e2, e3, e4⟩ := ih (i + 1) (by omega)
    have s := h.step (i := i) (by omega)
    refine ⟨kq a b i * P + Q, P, ?_, ?_, e4 (by omega), ?_⟩
    · rw [List.range'_succ, List.map_cons, cf, e1]
    · rw [s.1, s.2.1] at e2
      have e := Int.mul_ediv_add_emod (es a b i).1 (es a b i).2
      unfold kq
      generalize (es a b i).1 / (es a b i).2 = k at *
      generalize (es a b i).1 % (es a b i).2 = r at *
      generalize (es a b i).1 = u at *
      generalize (es a b i).2 = v at *
      clear s e4
      grind
    · intro h0
      have u := h.up (i := i) (by omega) h0
      have p := h.pos i (by omega)
      have : 0 ≤ kq a b i := Int.ediv_nonneg (by omega) (by omega)
      have := Int.mul_nonneg this (show 0 ≤ P by have := e4 (by omega); omega)
      omega
theorem En.whole {a b : Int} {N : Nat} (h : En a b N) : (cf (ek a b N)).1 * b = a * (cf (ek a b N)).2 ∧ 0 < (cf (ek a b N)).2 := by
  obtain ⟨P, Q, e1, e2, e3, _⟩ := h.drop (N - 1) 0 (by have := h.one; omega)
  have e : ek a b N = (List.range' 0 (N - 1 + 1)).map (kq a b) := by unfold ek; rw [List.range_eq_range', show N - 1 + 1 = N by have := h.one; omega]
  rw [e, e1]
  exact ⟨e2, e3⟩
theorem En.entry {a b : Int} {N : Nat} (h : En a b N) {i : Nat} (h0 : 0 < i) (hi : i < N) : 1 ≤ kq a b i ∧ (i + 1 = N → 2 ≤ kq a b i) := by
  have u := h.up hi h0
  have p := h.pos i hi
  have e := Int.mul_ediv_add_emod (es a b i).1 (es a b i).2
  have m := Int.emod_lt_of_pos (es a b i).1 p
  have s := h.step hi
  have z := h.zero
  have q0 : 0 ≤ kq a b i := Int.ediv_nonneg (by omega) (by omega)
  have k1 : 1 ≤ kq a b i := by
    rcases Int.lt_or_le (kq a b i) 1 with c | c
    · have c' : (es a b i).1 / (es a b i).2 = 0 := by unfold kq at c q0; omega
      rw [c'] at e; omega
    · exact c
  refine ⟨k1, fun hN => ?_⟩
  rcases Int.lt_or_le (kq a b i) 2 with c | c
  · have c' : (es a b i).1 / (es a b i).2 = 1 := by unfold kq at c k1; omega
    rw [← hN, s.2.1] at z
    rw [c', z] at e; omega
  · exact c
/-- The entries are numbers. -/
theorem En.size {a b : Int} {N M : Nat} (h : En a b N) (ha : a.natAbs ≤ M) (hb : b.natAbs ≤ M) {i : Nat} (hi : i < N) : (kq a b i).natAbs ≤ M := by
  have p := h.pos i hi
  have hu : (es a b i).1.natAbs ≤ M := by
    rcases Nat.eq_zero_or_pos i with e | e
    · subst e; exact ha
    · have := h.up hi e; omega
  unfold kq
  exact Nat.le_trans (Int.natAbs_ediv_le_natAbs _ _) hu

end Go.Proofs.YtfbgblidlabipaaGreatDoor.CnQ
end

section
/- The program: cont.quotients and its iterator. -/
set_option linter.unusedSimpArgs false
set_option linter.unusedVariables false
set_option maxRecDepth 100000
namespace Go.Proofs.YtfbgblidlabipaaGreatDoor
open Go.RowKit

theorem modLeft_i (a n : Int) (w : World) (ha : a.natAbs ≤ 4000000000000000000) (h0 : 1 ≤ n) (hn : n ≤ 1000000000000000000) :
    Calls Tryz.prog 175 #[.int .i64 a, .int .i64 n] w fun e w' => e = .returned (.int .i64 (a % n)) ∧ w' = w := by
  obtain ⟨m, rfl⟩ : ∃ m : Nat, n = m := ⟨n.toNat, by omega⟩
  exact left_any a m w ha (by omega) hn

set_option maxHeartbeats 1000000 in
theorem quotients_any (a b : Int) (w : World) :
    Calls Tryz.prog 121 #[.int .i64 a, .int .i64 b] w fun e w' => e = .returned (.func (.func 174) #[] #[.pointer (some ⟨w.heap.size, 0, none⟩), .pointer (some ⟨w.heap.size + 1, 0, none⟩)]) ∧ w' = (w.alloc (.cells #[.int .i64 a] 3)).alloc (.cells #[.int .i64 b] 3) := by
  go_enter Tryz.func121, Tryz.ntmps121
  go_wp2
  go_ret
  exact ⟨rfl, rfl⟩

theorem w64_id {x : Int} (h1 : -9223372036854775808 ≤ x) (h2 : x ≤ 9223372036854775807) : wrap64 x = x := by
  simp only [wrap64]; omega

/-- One step of Euclid's way, in numbers that an int holds. -/
structure Qs (a b : Int) (i : Nat) (u v R k : Int) : Prop where
  hu : u = (CnQ.es a b i).1
  hv : v = (CnQ.es a b i).2
  hR : u % v = R
  hk : k = CnQ.kq a b i
  q : (u - R).tdiv v = k
  ub : u.natAbs ≤ 1000000000000000000
  v0 : 1 ≤ v
  vb : v ≤ 1000000000000000000
  R0 : 0 ≤ R
  Rb : R < v
  kb : k.natAbs ≤ 1000000000000000000
theorem qs_of {a b : Int} {N : Nat} (h : CnQ.En a b N) (ha : a.natAbs ≤ 1000000000000000000) (hb : b ≤ 1000000000000000000) {i : Nat} (hi : i < N) : Qs a b i (CnQ.es a b i).1 (CnQ.es a b i).2 ((CnQ.es a b i).1 % (CnQ.es a b i).2) (CnQ.kq a b i) := by
  have p := h.pos i hi
  have d := h.down_le (i := i) (by omega)
  refine ⟨rfl, rfl, rfl, rfl, ?_, ?_, by omega, by omega, Int.emod_nonneg _ (by omega), Int.emod_lt_of_pos _ p, h.size ha (by have := h.b0; omega) hi⟩
  · have e := Int.mul_ediv_add_emod (CnQ.es a b i).1 (CnQ.es a b i).2
    have e2 : (CnQ.es a b i).1 - (CnQ.es a b i).1 % (CnQ.es a b i).2 = (CnQ.es a b i).2 * CnQ.kq a b i := by unfold CnQ.kq; omega
    rw [e2]
    exact Int.mul_tdiv_cancel_left _ (by omega)
  · rcases Nat.eq_zero_or_pos i with e | e
    · subst e; exact ha
    · have := h.up hi e; omega

set_option maxHeartbeats 4000000 in
theorem quotients_yields (a b : Int) (N ba bb : Nat) (h : CnQ.En a b N) (ha : a.natAbs ≤ 1000000000000000000) (hb : b ≤ 1000000000000000000) (n : Nat) (hn : 2 ≤ n) :
    YieldsE Fence.wide n Tryz.prog 174 #[.pointer (some ⟨ba, 0, none⟩), .pointer (some ⟨bb, 0, none⟩)] (fun x : Int => #[.int .i64 x]) (fun W => Cl ba [.int .i64 a] 3 W ∧ Cl bb [.int .i64 b] 3 W) (CnQ.ek a b N) true := by
  intro l J Jx W hJ hC hY hend h0
  have HY : Hid (∀ (o : Option Nat) (pre : List Int) (x : Int) (W1 : World), J o pre W1 → (∀ g, o = some g → W.heap.size ≤ g ∧ g < W1.heap.size) → W.heap.size ≤ W1.heap.size → pre ++ [x] <+: CnQ.ek a b N → YieldAt Fence.wide (n - 1) Tryz.prog l #[.int .i64 x] W1 fun e W' =>
      (e = .returned (.bool true) ∧ J o (pre ++ [x]) W' ∧ W1.heap.size ≤ W'.heap.size ∧ ∀ g, o = some g → W'.heap[g]? = W1.heap[g]?) ∨ (e = .returned (.bool false) ∧ Jx o (pre ++ [x]) W')) := hY
  have HJ : Hid (AbE J) := hJ
  have H0 : Hid (J none [] W) := h0
  have HE : Hid (CnQ.En a b N) := h
  have HQ : Hid (∀ i, i < N → Qs a b i (CnQ.es a b i).1 (CnQ.es a b i).2 ((CnQ.es a b i).1 % (CnQ.es a b i).2) (CnQ.kq a b i)) := fun i hi => qs_of h ha hb hi
  obtain ⟨ca, cb⟩ := hC _ _ _ h0
  have c0 := ca.cell 0
  have c1 := cb.cell 0
  simp only [List.getElem?_cons_zero] at c0 c1
  clear hY hJ hend h hC ca cb ha hb h0
  refine callsIn_of_wp Tryz.func174 rfl trivial ?_ rfl
  simp only [Tryz.ntmps174, List.size_toArray, List.length_cons, List.length_nil, Nat.reduceAdd, Nat.reduceSub, Array.replicate_succ, Array.replicate_zero, List.push_toArray, List.append_toArray, List.nil_append, List.cons_append]
  gi_wp2
  gi_region
  gi_wp2
  have HJ1 : Hid (J none [] W.drew) := HJ.out _ _ _ _ _ H0.out (grownBy_below (Below.refl _ _).drew none) (.inl rfl)
  clear c0 c1 H0
  gi_loopg [4, 5, 6] N (fun k pu pv pr wx => ∃ (i : Nat), pu = .int .i64 (CnQ.es a b i).1 ∧ pv = .int .i64 (CnQ.es a b i).2 ∧ i + k = N ∧ W.heap.size ≤ wx.heap.size ∧ Hid (J none (CnQ.ek a b i) wx))
  case atStart => exact ⟨0, rfl, rfl, by omega, by simp, HJ1.out⟩
  case round =>
    clear HJ1
    obtain ⟨i, rfl, rfl, hik, hz, HR⟩ := hrel
    by_cases hiN : i < N
    · have hq := HQ.out i hiN
      obtain ⟨u, hu⟩ : ∃ u, u = (CnQ.es a b i).1 := ⟨_, rfl⟩
      obtain ⟨v, hv⟩ : ∃ v, v = (CnQ.es a b i).2 := ⟨_, rfl⟩
      obtain ⟨K, hK⟩ : ∃ K, K = CnQ.kq a b i := ⟨_, rfl⟩
      obtain ⟨R, hR⟩ : ∃ R, R = (CnQ.es a b i).1 % (CnQ.es a b i).2 := ⟨_, rfl⟩
      rw [← hu, ← hv] at hR
      rw [← hu, ← hv, ← hR, ← hK] at hq
      rw [← hu, ← hv]
      have HLf : Hid (∀ W, Calls Tryz.prog 175 #[.int .i64 u, .int .i64 v] W fun e w' => e = .returned (.int .i64 R) ∧ w' = W) := fun W => by
        rw [hR]; exact modLeft_i u v W (by have := hq.ub; omega) hq.v0 hq.vb
      have hvb : (v != 0) = true := bne_iff_ne.2 (by have := hq.v0; omega)
      have hve : (v == 0) = false := beq_eq_false_iff_ne.2 (by have := hq.v0; omega)
      have hdiv := hq.q
      have hKw : wrap64 K = K := w64_id (by have := hq.kb; omega) (by have := hq.kb; omega)
      have HQs : Hid (Qs a b i u v R K) := hq
      have b1 := hq.ub
      have b2 := hq.R0
      have b3 := hq.Rb
      have b4 := hq.vb
      have b5 := hq.v0
      have HK9 : Hid (K = CnQ.kq a b i) := hK
      have HU9 : Hid (u = (CnQ.es a b i).1 ∧ v = (CnQ.es a b i).2 ∧ R = u % v) := ⟨hu, hv, hR⟩
      clear hu hv hR hK hq
      gi_wp2
      refine ⟨trivial, fun _ => by omega, ?_⟩
      refine (callsIn_wide.2 (HLf.out _)).mono ?_
      rintro e w2 ⟨rfl, hw2⟩
      rw [hw2]
      clear hw2 w2
      obtain ⟨fn, tmps, assign, body, hy, hRd⟩ := HY.out none (CnQ.ek a b i) K wr HR.out (fun g e => by cases e) hz (by rw [HK9.out, ← CnQ.ek_succ]; exact CnQ.ek_prefix a b (by omega))
      gi_wp2
      refine ⟨fun _ => by omega, hRd.mono ?_⟩
      rintro e W' (⟨rfl, hJ', zk, hk'⟩ | ⟨rfl, hJx'⟩)
      · have HJ4 : Hid (J none (CnQ.ek a b (i + 1)) W') := by
          have := hJ'
          rw [HK9.out, ← CnQ.ek_succ] at this; exact this
        clear hJ' hk' hRd hy
        gi_wp2
        gi_roundg (gk - 1)
        case rel =>
          have s := HE.out.step hiN
          refine ⟨i + 1, ?_, ?_, by omega, by omega, HJ4.out⟩
          · rw [s.1, ← HU9.out.2.1]
          · rw [s.2.1, ← HU9.out.1, ← HU9.out.2.1, ← HU9.out.2.2]
        case measure => omega
      · gi_wp2
        exact bodyPost_ret (results_none rfl _ _ _) rfl ⟨⟨_, rfl⟩, .inr ⟨_, _, hJx'⟩⟩
    · obtain rfl : i = N := by omega
      have hz0 : ((CnQ.es a b i).2 != 0) = false := by rw [HE.out.zero]; rfl
      gi_wp2
      exact bodyPost_end (results_none rfl _ _ _) rfl ⟨⟨_, rfl⟩, .inl ⟨trivial, none, HR.out⟩⟩

end Go.Proofs.YtfbgblidlabipaaGreatDoor
end
