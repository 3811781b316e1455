import Derived.Test.YtcnfhndejkngkaaGreatDoorJtO
import Derived.Test.YtcnfhndejkngkaaGreatDoorJtP
import Derived.Test.YtcnfhndejkngkaaGreatDoorJtH
import Derived.Maps.AppendAt
import Derived.Test.YtcnfhndejkngkaaGreatDoorCfM
import Derived.Test.YtcnfhndejkngkaaGreatDoorJtF
import Derived.Test.YtcnfhndejkngkaaGreatDoorJtG
section
/- Package long: numbers by limbs: what a slice holds; carried, Of, limb. -/
set_option linter.unusedSimpArgs false
set_option linter.unusedVariables false
set_option maxRecDepth 100000
namespace Go.Proofs.YtcnfhndejkngkaaGreatDoor
open Go.RowKit LgM

def nz (l : List Nat) : List Int := l.map (fun x : Nat => (x : Int))
theorem nz_len (l : List Nat) : (nz l).length = l.length := by simp [nz]
theorem nz_append (x y : List Nat) : nz (x ++ y) = nz x ++ nz y := by simp [nz]

theorem IS.ownL {w : World} {base k : Nat} {v : Value} {l : List Int} (hk : l.length = k) (h : w.ownsRow base 3 1 v k (ints l)) : IS w v l := by
  subst hk
  obtain ⟨_, ⟨h1, h2⟩ | ⟨g, cap, cur, e1, _, e3, e4, _, e6, e7⟩⟩ := h
  · exact ⟨none, 0, 0, 0, by rw [h1, h2], fun h => by omega, fun i hi => by omega, fun h => by omega⟩
  · refine ⟨some ⟨g, 0, none⟩, g, 0, cap, e1, fun _ => rfl, fun i hi => ?_, fun _ => lt_of_some e3⟩
    have h3 : (cur.toList.take (l.length * 1))[i]? = (ints l)[i]? := by rw [e7]
    rw [List.getElem?_take, if_pos (by omega)] at h3
    simp only [World.cell?, e3, Nat.zero_add]
    rw [← Array.getElem?_toList, h3]
    simp [ints, hi, List.getD_eq_getElem?_getD]
theorem IS.belowL {w w' : World} {s : Value} {xs : List Int} (h : IS w s xs) (k : Below w.heap.size w w') : IS w' s xs := by
  obtain ⟨a, g, o, c, e, p, cell, lt⟩ := h.shape
  refine ⟨a, g, o, c, e, p, fun i hi => ?_, fun hp => Nat.lt_of_lt_of_le (lt hp) k.size⟩
  rw [k.cell (p := ⟨g, o + i, none⟩) (lt (by omega))]; exact cell i hi
theorem IS.nilL (w : World) : IS w (.slice none 0 0) [] := ⟨none, 0, 0, 0, rfl, fun h => by simp at h, fun i hi => by simp at hi, fun h => by simp at h⟩

/-- The block holds ints. -/
def TyB (w : World) (b : Nat) : Prop := ∃ arr fr, w.heap[b]? = some (.cells arr 3 fr)
theorem TyB.below {w w' : World} {b : Nat} (h : TyB w b) (k : Below w.heap.size w w') : TyB w' b := by
  obtain ⟨arr, fr, h⟩ := h
  exact ⟨arr, fr, (k.block b (lt_of_some h)).trans h⟩
theorem TyB.set {w : World} {b : Nat} (h : TyB w b) (p : Addr) (v : Value) : TyB (w.setCell p v) b := by
  obtain ⟨arr, fr, h⟩ := h
  by_cases e : b = p.block
  · subst e
    refine ⟨if p.spot.isSome = true then arr else arr.setIfInBounds p.off v, fr, ?_⟩
    simp only [World.setCell, Array.getElem?_modify]
    rw [h]
    simp
  · exact ⟨arr, fr, (Below.heap_setCell w p v b e).trans h⟩
/-- The slice's array, if it has one, holds ints. -/
def TyI (w : World) (v : Value) : Prop := ∀ a k c, v = .slice (some a) k c → 0 < k → TyB w a.block
theorem TyI.below {w w' : World} {v : Value} (h : TyI w v) (k : Below w.heap.size w w') : TyI w' v := fun a l c e hl => (h a l c e hl).below k
theorem TyI.set {w : World} {v : Value} (h : TyI w v) (p : Addr) (u : Value) : TyI (w.setCell p u) v := fun a l c e hl => (h a l c e hl).set p u
theorem TyI.ownL {w : World} {base k : Nat} {v : Value} {xs : List Value} (h : w.ownsRow base 3 1 v k xs) : TyI w v := by
  intro a l c e hl
  obtain ⟨_, ⟨h1, _⟩ | ⟨g, cap, cur, e1, _, e3, _⟩⟩ := h
  · rw [h1] at e; simp at e
  · rw [e1] at e
    simp only [Value.slice.injEq, Option.some.injEq] at e
    obtain ⟨rfl, _⟩ := e
    exact ⟨cur, _, e3⟩
/-- The slice holds the number n: its limbs, no more. -/
def LN (w : World) (v : Value) (n : Nat) : Prop := ∃ k, Nd k n ∧ IS w v (nz (dgl k n)) ∧ TyI w v
theorem LN.below {w w' : World} {v : Value} {n : Nat} (h : LN w v n) (k : Below w.heap.size w w') : LN w' v n := by
  obtain ⟨i, h1, h2, h3⟩ := h; exact ⟨i, h1, h2.belowL k, h3.below k⟩
theorem LN.zero (w : World) : LN w (.slice none 0 0) 0 := ⟨0, Nd.zero, IS.nilL w, fun a k c e => by simp at e⟩

theorem ints_snoc (l : List Nat) (x : Int) : ints (nz l) ++ [.int .i64 x] = ints (nz l ++ [x]) := by simp [ints]
theorem limb_int (q : Nat) : ((q : Int) % 1000000000) = ((q % Bs : Nat) : Int) := by rw [Int.natCast_emod]; rfl

set_option maxHeartbeats 1000000 in
theorem carried_any (B i n m : Nat) (a : Option Addr) (c : Nat) (w : World) (hrow : w.ownsRow B 3 1 (.slice a i c) i (ints (nz (dgl i n)))) (hB : B ≤ w.heap.size) (hq : n / Bs ^ i ≤ 9000000000000000000) (hm : n < Bs ^ m) (him : i ≤ m) (hm2 : m ≤ 1000000000) :
    Calls Tryz.prog 111 #[.slice a i c, .int .i64 ((n / Bs ^ i : Nat) : Int)] w fun e w' => ∃ k a' c', e = .returned (.slice a' k c') ∧ (n < Bs ^ k ∧ (k = i ∨ Bs ^ (k - 1) ≤ n)) ∧ w'.ownsRow B 3 1 (.slice a' k c') k (ints (nz (dgl k n))) ∧ Below B w w' := by
  obtain ⟨i0, hi, hz0, hz1, hz2⟩ := info_parts Tryz.infoInt
  have HI : Hid (Tryz.prog.info? 3 = some i0 ∧ i0.zero = some (.int .i64 0) ∧ i0.size = 1 ∧ i0.bytes = 8) := ⟨hi, hz0, hz1, hz2⟩
  clear hi hz0 hz1 hz2
  have HR0 : Hid (w.ownsRow B 3 1 (.slice a i c) i (ints (nz (dgl i n)))) := hrow
  clear hrow
  obtain ⟨q, hqe⟩ : ∃ q, q = n / Bs ^ i := ⟨_, rfl⟩
  have HQ : Hid (q = n / Bs ^ i) := hqe
  have HM : Hid (n < Bs ^ m) := hm
  rw [← hqe] at hq ⊢
  clear hqe hm
  go_enter Tryz.func111, Tryz.ntmps111
  go_wp2
  go_loopw [0, 1] (fun lv cv wx => ∃ (k q : Nat) (a' : Option Addr) (c' : Nat), lv = .slice a' k c' ∧ cv = .int .i64 (q : Int) ∧ q ≤ 9000000000000000000 ∧ k ≤ m ∧ Hid ((q = n / Bs ^ k ∧ (k = i ∨ Bs ^ (k - 1) ≤ n)) ∧ wx.ownsRow B 3 1 (.slice a' k c') k (ints (nz (dgl k n))) ∧ Below B w wx)) (fun _ cv _ => (intOf cv).toNat)
  case atStart => exact ⟨i, q, a, c, rfl, rfl, hq, him, ⟨HQ.out, .inl rfl⟩, HR0.out, Below.refl _ _⟩
  case round =>
    clear HQ HR0 him hq
    obtain ⟨k, q, a', c', rfl, rfl, hq, hkm, HR⟩ := hrel
    by_cases h0 : q = 0
    · subst h0
      go_wp2
      go_ret
      obtain ⟨⟨e1, e2⟩, e3, e4⟩ := HR.out
      refine ⟨k, a', c', rfl, ⟨?_, e2⟩, e3, e4⟩
      rcases Nat.lt_or_ge n (Bs ^ k) with h | h
      · exact h
      · have := Nat.div_pos h (bs_pos k); omega
    · have hge : Bs ^ k ≤ n := by
        have := HR.out.1.1
        rcases Nat.lt_or_ge n (Bs ^ k) with h | h
        · rw [Nat.div_eq_of_lt h] at this; omega
        · exact h
      have hkm2 : k < m := by
        rcases Nat.lt_or_ge k m with h | h
        · exact h
        · have := Nat.pow_le_pow_right (show 0 < Bs by decide) h; have := HM.out; omega
      have HGE : Hid (Bs ^ k ≤ n) := hge
      have hpos : decide ((0 : Int) < (q : Int)) = true := decide_eq_true (by omega)
      have hwz := HR.out.2.2.size
      clear hge
      go_wp2_with (at_builtin; refine wpList_append_own _ rfl _ _ 65 rfl B 3 i0 (.int .i64 0) 1 8 Tryz.underlying65 HI.out.1 HI.out.2.1 HI.out.2.2.1 HI.out.2.2.2 rfl (by decide) (.slice a' k c') k (ints (nz (dgl k n))) rfl (HR.out.2.1.alloc _) ⟨wr.heap.size, 0, none⟩ 1 1 [.int .i64 ((q : Int) % 1000000000)] rfl rfl (cell_one_new _ _ _) (by simp [Value.oneCell']) (by simp only [maxLen]; omega) (by omega) (by simp; omega) ?_; intro v' w1 hown' hgrow _; obtain ⟨g', cap', rfl⟩ := ownsRow_succ hown')
      have HN : Hid (w1.ownsRow B 3 1 (.slice (some ⟨g', 0, none⟩) (k + 1) cap') (k + 1) (ints (nz (dgl (k + 1) n))) ∧ Below B w w1) := by
        refine ⟨?_, ((HR.out.2.2.alloc (by omega) _).grown hgrow (by simp; omega) (fun g e => (HR.out.2.1.lt g e).1))⟩
        rw [dgl_succ, nz_append]
        have e : nz [n / Bs ^ k % Bs] = [(q : Int) % 1000000000] := by rw [← HR.out.1.1, limb_int]; rfl
        rw [e, ← ints_snoc]
        exact hown'
      clear hown' hgrow
      go_roundw
      case rel =>
        refine ⟨k + 1, q / 1000000000, _, _, rfl, by go_num, by omega, by omega, ⟨?_, .inr ?_⟩, HN.out⟩
        · rw [div_s, ← HR.out.1.1]
        · exact HGE.out
      case measure => simp [intOf]; omega

end Go.Proofs.YtcnfhndejkngkaaGreatDoor
end

section
/- The program: cont.surd: quotient, next. -/
set_option linter.unusedSimpArgs false
set_option linter.unusedVariables false
set_option maxRecDepth 100000
namespace Go.Proofs.YtcnfhndejkngkaaGreatDoor
open Go.RowKit

/-- (p + the root of d) / q. -/
def sgv (d r p q : Nat) : Value := .agg #[.int .i64 (d : Int), .int .i64 (r : Int), .int .i64 (p : Int), .int .i64 (q : Int)]
def sgc (d r p q : Nat) : List Value := [.int .i64 (d : Int), .int .i64 (r : Int), .int .i64 (p : Int), .int .i64 (q : Int)]

abbrev S4c (b : Nat) (d r p q : Nat) (w : World) : Prop := w.cell? ⟨b, 0, none⟩ = some (.int .i64 (d : Int)) ∧ w.cell? ⟨b, 1, none⟩ = some (.int .i64 (r : Int)) ∧ w.cell? ⟨b, 2, none⟩ = some (.int .i64 (p : Int)) ∧ w.cell? ⟨b, 3, none⟩ = some (.int .i64 (q : Int))
end Go.Proofs.YtcnfhndejkngkaaGreatDoor
end

section
/- A range over an iterator that keeps one block of its own, reads what it has captured, and may come to an end of its own; the body may write into blocks of its own. -/
set_option linter.unusedSimpArgs false
set_option linter.unusedVariables false
set_option maxRecDepth 100000
namespace Go.Proofs.YtcnfhndejkngkaaGreatDoor
open Go.RowKit
section
variable {α : Type}

/-- What is said of the world hangs not on the iterator's block, and stays where the iterator takes a new one. -/
def AbE (J : Option Nat → List α → World → Prop) : Prop :=
  ∀ o s W W' o', J o s W → W.grownBy W' o → (o' = o ∨ ∃ g, o' = some g ∧ W.heap.size ≤ g) → J o' s W'
theorem AbE.alloc {J : Option Nat → List α → World → Prop} (h : AbE J) {o : Option Nat} {s : List α} {W : World} (ob : Obj) (hs : J o s W) : J o s (W.alloc ob) :=
  h o s W _ o hs (grownBy_more (World.grownBy_alloc W ob none) o) (.inl rfl)

/-- The iterator yields xs in their order, for as long as it is asked for more. Behind the last it returns (fin), or else the body leaves it there at the latest. What it reads of the memory is C's. -/
def YieldsE (F : Fence) (n : Nat) (P : Program) (g : Nat) (lb : Array Value) (encs : α → Array Value) (C : World → Prop) (xs : List α) (fin : Bool) : Prop :=
  ∀ (l : Nat) (J Jx : Option Nat → List α → World → Prop) (W : World), AbE J → (∀ o s W1, J o s W1 → C W1) →
    (∀ o pre x W1, J o pre W1 → (∀ g, o = some g → W.heap.size ≤ g ∧ g < W1.heap.size) → W.heap.size ≤ W1.heap.size → pre ++ [x] <+: xs → YieldAt F (n - 1) P l (encs x) W1 fun e W' =>
      (e = .returned (.bool true) ∧ J o (pre ++ [x]) W' ∧ W1.heap.size ≤ W'.heap.size ∧ ∀ g, o = some g → W'.heap[g]? = W1.heap[g]?) ∨ (e = .returned (.bool false) ∧ Jx o (pre ++ [x]) W')) →
    (fin = false → ∀ o W1, J o xs W1 → False) → J none [] W →
    CallsIn F n P g (#[.func (.yield l) #[] #[]] ++ lb) W fun e W' => (∃ v, e = .returned v) ∧ ((fin = true ∧ ∃ o, J o xs W') ∨ ∃ o pre, Jx o pre W')

def keptE (B : Nat) (o : Option Nat) (k : Nat) : Prop := k = B ∨ k = B + 1 ∨ o = some k

def bodyPostE (B : Nat) (I : Option Nat → List α → World → Prop) (Ix : Code → Option Nat → List α → World → Prop) (o : Option Nat) (xs : List α) (W : World) : Exit → Act → World → Prop
  | .normal, _, W' => KP (keptE B o) W W' ∧ I o xs W'
  | .ret, _, W' => KP (keptE B o) W W' ∧ Ix .ret o xs W'
  | .exit id, _, W' => KP (keptE B o) W W' ∧ Ix (.exit id) o xs W'
  | .goto t, _, W' => KP (keptE B o) W W' ∧ Ix (.goto t) o xs W'
  | .panic _, _, _ => False
  | .outgrown, _, _ => False

variable {F : Fence} {n : Nat} {P : Program}

theorem wpIn_rangeE {g : Operand} {ps : Array Tmp} {assign body : Code} {Q : Exit → Act → World → Prop} {a : Act} {w : World}
    (hro : F.round = none) (h1 : 1 ≤ n) {gf : Nat} {lb : Array Value} (hg : a.eval g = .func (.func gf) #[] lb) (hFg : F.fn gf) (eg : ∀ args w, (callFunc gf args).run P w = .ok (.enter gf args) w)
    {encs : α → Array Value} {C : World → Prop} {xs : List α} {fin : Bool} (hseq : YieldsE F (n - 1) P gf lb encs C xs fin) (hps : ∀ x, (encs x).size = ps.size)
    (I : Option Nat → List α → World → Prop) (Ix : Code → Option Nat → List α → World → Prop) (hI : AbE I) (hIp : ∀ o s W ob, I o s W → I o s (W.putObj (w.heap.size + 1) ob)) (hIxp : ∀ c o s W ob, Ix c o s W → Ix c o s (W.putObj (w.heap.size + 1) ob)) (hC : ∀ o s W, I o s W → C W) (h0 : I none [] w) (a₁ : α → Act)
    (hassign : ∀ (l : Nat) (x : α) (W : World) (K : Act → World → Prop), K (a₁ x) W →
      assign.wpIn (F.inRound l) (n - 1 - 1) P (Exit.then K (fun _ _ _ => False)) { tmps := (ps.zip (encs x)).foldl (fun t (p, v) => t.setIfInBounds p v) a.tmps, defers := [] } W)
    (hbody : ∀ (l : Nat) (o : Option Nat) (pre : List α) (x : α) (W : World), I o pre W → (∀ g, o = some g → w.heap.size + 2 ≤ g ∧ g < W.heap.size) → pre ++ [x] <+: xs → w.heap.size + 2 ≤ W.heap.size → body.wpIn (F.inRound l) (n - 1 - 1) P (bodyPostE w.heap.size I Ix o (pre ++ [x]) W) (a₁ x) W)
    (hend : fin = false → ∀ o W, I o xs W → False)
    (hdone : fin = true → ∀ (o : Option Nat) (W : World), I o xs W → W.heap[w.heap.size]? = some (.deferred (some [])) → Q .normal { a with defers := { target := .collected w.heap.size, args := #[] } :: a.defers } W)
    (hstop : ∀ (c : Code) (o : Option Nat) (pre : List α) (W : World), Ix c o pre W → W.heap[w.heap.size]? = some (.deferred (some [])) → c.wpIn F n P Q { a with defers := { target := .collected w.heap.size, args := #[] } :: a.defers } W) :
    (Code.rangeFunc g ps assign body).wpIn F n P Q a w := by
  refine wpIn_rangeFunc ?_
  intro fn hfn
  rw [hro]
  obtain ⟨L, hL⟩ : ∃ L : LoopState → Option Code → Obj, L = fun st pe => .loop { state := st, pending := pe, fn, tmps := a.tmps, params := ps, assign, body, defers := w.heap.size } := ⟨_, rfl⟩
  obtain ⟨W1, hW1⟩ : ∃ W1, W1 = (w.alloc (.deferred (some []))).alloc (L .ready none) := ⟨_, rfl⟩
  have z1 : W1.heap.size = w.heap.size + 2 := by rw [hW1]; simp
  have dW : ∀ (X : World) (l : Nat) (o : Obj), X.heap[l]? = some o → l < X.heap.size := fun X l o h => (Array.getElem?_eq_some_iff.1 h).1
  have hR1 : W1.heap[w.heap.size + 1]? = some (L .ready none) := by
    rw [hW1]; have := World.alloc_heap_new (w.alloc (.deferred (some []))) (L .ready none); rwa [World.size_alloc] at this
  have hD1 : W1.heap[w.heap.size]? = some (.deferred (some [])) := by
    rw [hW1]; exact (Below.heap_alloc _ _ _ (by simp)).trans (World.alloc_heap_new w _)
  refine ⟨w.heap.size + 1, [{ target := .collected w.heap.size, args := #[] }], W1, { target := .fn (.func gf) lb, args := #[.func (.yield (w.heap.size + 1)) #[] #[]] }, W1, gf,
    #[.func (.yield (w.heap.size + 1)) #[] #[]] ++ lb, W1, ?_, ?_, ?_, ?_, fun _ => h1, ?_⟩
  · rw [hW1, hL]; exact run_enterLoop_outer _ _ _ _ _
  · simp only [resolve, hg]
    simp [go_sem]
  · intro f' hf'; simp [Target.leads] at hf'; subst hf'; exact hFg
  · simp [invoke, go_sem, eg]
  · refine (hseq (w.heap.size + 1)
      (fun o pre W => (∀ g, o = some g → w.heap.size + 2 ≤ g) ∧ I o pre W ∧ W.heap[w.heap.size + 1]? = some (L .ready none) ∧ W.heap[w.heap.size]? = some (.deferred (some [])))
      (fun o pre W => ∃ c, Ix c o pre W ∧ W.heap[w.heap.size + 1]? = some (L .done (some c)) ∧ W.heap[w.heap.size]? = some (.deferred (some [])))
      W1 ?_ (fun o s W h => hC o s W h.2.1) ?_ (fun hf o W h => hend hf o W h.2.1) ⟨(by intro g e; cases e), ?_, hR1, hD1⟩).mono ?_
    · rintro o s A B o' ⟨ho, hs, hl, hk⟩ hg' ho'
      have hA := dW _ _ _ hl
      refine ⟨?_, hI o s A B o' hs hg' ho', ?_, ?_⟩
      · rintro g' e
        rcases ho' with h | ⟨g2, h, h2⟩
        · exact ho g' (h ▸ e)
        · rw [h] at e; cases e; omega
      · exact (hg'.block _ hA (fun e => by have := ho _ e.symm; omega)).trans hl
      · exact (hg'.block _ (dW _ _ _ hk) (fun e => by have := ho _ e.symm; omega)).trans hk
    · rintro o pre x W ⟨ho, hi, hl, hk⟩ hol hsz hpre
      have hlt := dW _ _ _ hl
      have hl' := hl
      rw [hL] at hl'
      have hy := run_yield (P := P) (args := encs x) hl' (hps x)
      refine ⟨fn, _, assign, body, hy, roundIn_of_wpIn hfn (hassign _ x W _ ⟨_, run_beginRound hl' rfl, ?_⟩)⟩
      obtain ⟨Wb, hWb⟩ : ∃ Wb, Wb = W.putObj (w.heap.size + 1) (L .busy none) := ⟨_, rfl⟩
      have hl2 : Wb.heap[w.heap.size + 1]? = some (L .busy none) := by rw [hWb]; exact World.putObj_heap_same hlt
      have hk2 : Wb.heap[w.heap.size]? = some (.deferred (some [])) := by rw [hWb]; exact (World.putObj_heap_other (by omega)).trans hk
      have hi2 : I o pre Wb := by rw [hWb]; exact hIp _ _ _ _ hi
      have zb : Wb.heap.size = W.heap.size := by rw [hWb]; simp
      have kb : ∀ g, o = some g → Wb.heap[g]? = W.heap[g]? := fun g e => by rw [hWb]; exact World.putObj_heap_other (by have := ho g e; omega)
      have fin : ∀ (jump : Option Code) (W3 : World), KP (keptE w.heap.size o) Wb W3 →
          (Instr.endRound (w.heap.size + 1) jump).run P W3 = .ok (.bool jump.isNone) (W3.putObj (w.heap.size + 1) (L (if jump.isNone then .ready else .done) jump)) ∧
          (W3.putObj (w.heap.size + 1) (L (if jump.isNone then .ready else .done) jump)).heap[w.heap.size + 1]? = some (L (if jump.isNone then .ready else .done) jump) ∧
          (W3.putObj (w.heap.size + 1) (L (if jump.isNone then .ready else .done) jump)).heap[w.heap.size]? = some (.deferred (some [])) ∧
          W.heap.size ≤ (W3.putObj (w.heap.size + 1) (L (if jump.isNone then .ready else .done) jump)).heap.size ∧
          (∀ g, o = some g → (W3.putObj (w.heap.size + 1) (L (if jump.isNone then .ready else .done) jump)).heap[g]? = W.heap[g]?) := fun jump W3 h3 => by
        have hl3 : W3.heap[w.heap.size + 1]? = some (L .busy none) := (h3.block _ (.inr (.inl rfl)) (by omega)).trans hl2
        have hk3 : W3.heap[w.heap.size]? = some (.deferred (some [])) := (h3.block _ (.inl rfl) (by omega)).trans hk2
        have hl4 := hl3
        rw [hL] at hl4
        have he := run_endRound (P := P) jump hl4
        refine ⟨by rw [hL]; exact he, World.putObj_heap_same (dW _ _ _ hl3), (World.putObj_heap_other (by omega)).trans hk3, ?_, ?_⟩
        · have := h3.size; simp; omega
        · intro g e
          have h5 := ho g e
          have h6 := (hol g e).2
          exact (World.putObj_heap_other (by omega)).trans ((h3.block g (.inr (.inr e)) (by omega)).trans (kb g e))
      have hb := hbody (w.heap.size + 1) o pre x Wb hi2 (fun g e => ⟨ho g e, by rw [zb]; exact (hol g e).2⟩) hpre (by omega)
      have hb2 : body.wpIn (F.inRound (w.heap.size + 1)) (n - 1 - 1) P (bodyPostE w.heap.size I Ix o (pre ++ [x]) Wb) (a₁ x) (W.putObj (w.heap.size + 1) (L .busy none)) := by rw [← hWb]; exact hb
      rw [hL] at hb2
      refine wpIn_mono hb2 ?_
      rintro e a3 W3 hp
      cases e with
      | normal =>
        obtain ⟨h3, hi3⟩ := hp
        obtain ⟨hr, hl4, hk4, kk⟩ := fin none W3 h3
        exact ⟨_, _, hr, .inl ⟨rfl, ⟨ho, hIp _ _ _ _ hi3, hl4, hk4⟩, kk⟩⟩
      | ret =>
        obtain ⟨h3, hi3⟩ := hp
        obtain ⟨hr, hl4, hk4, kk⟩ := fin (some .ret) W3 h3
        exact ⟨_, _, hr, .inr ⟨rfl, .ret, hIxp _ _ _ _ _ hi3, hl4, hk4⟩⟩
      | exit id =>
        obtain ⟨h3, hi3⟩ := hp
        obtain ⟨hr, hl4, hk4, kk⟩ := fin (some (.exit id)) W3 h3
        exact ⟨_, _, hr, .inr ⟨rfl, .exit id, hIxp _ _ _ _ _ hi3, hl4, hk4⟩⟩
      | goto t =>
        obtain ⟨h3, hi3⟩ := hp
        obtain ⟨hr, hl4, hk4, kk⟩ := fin (some (.goto t)) W3 h3
        exact ⟨_, _, hr, .inr ⟨rfl, .goto t, hIxp _ _ _ _ _ hi3, hl4, hk4⟩⟩
      | panic ch => exact hp.elim
      | outgrown => exact hp.elim
    · rw [hW1]; exact hI.alloc _ (hI.alloc _ h0)
    · rintro e W2 ⟨⟨v, rfl⟩, ⟨hf, o, _, hi, hl, hk⟩ | ⟨o, pre, c, hi, hl, hk⟩⟩
      · have hl' := hl
        rw [hL] at hl'
        exact ⟨none, _, run_endLoop (P := P) hl' (by simp), hdone hf o _ (hIp _ _ _ _ hi) ((World.putObj_heap_other (by omega)).trans hk)⟩
      · have hl' := hl
        rw [hL] at hl'
        exact ⟨some c, _, run_endLoop (P := P) hl' (by simp), hstop c o pre _ (hIxp _ _ _ _ _ hi) ((World.putObj_heap_other (by omega)).trans hk)⟩

end
end Go.Proofs.YtcnfhndejkngkaaGreatDoor
end
