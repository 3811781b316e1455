/- The program: the iterator of partitions, by recursion. -/
import Derived.Test.YtmifenflbaohnaaDoorPuO
set_option linter.unusedSimpArgs false
set_option linter.unusedVariables false
set_option maxRecDepth 100000
namespace Go.Proofs.YtmifenflbaohnaaDoor
open Go.RowKit
attribute [local go_sem] Oper.semAt_some

theorem row_lenP {n : Nat} {r : List Int} (h : ∀ j, j < r.length → 1 ≤ r.getD j 0) (hs : r.sum = n) : r.length ≤ n := by
  have key : ∀ r : List Int, (∀ j, j < r.length → 1 ≤ r.getD j 0) → (r.length : Int) ≤ r.sum := by
    intro r
    induction r with
    | nil => intro _; simp
    | cons x r ih =>
      intro h
      have a := h 0 (by simp)
      have b := ih (fun j hj => by have := h (j + 1) (by simp; omega); simpa using this)
      simp at a
      simp only [List.length_cons, List.sum_cons]
      omega
  have := key r h
  omega
def mkD (r : Nat) : Deferred := { target := .collected r, args := #[] }
/-- The way out behind any number of ranges. -/
theorem leaves_all {F : Fence} {n : Nat} {P : Program} {fn : Func} {tmps : Array Value} {R : Ending → World → Prop} (hfn : fn.results = #[]) : ∀ (rs : List Nat) (W : World), rs.Nodup → (∀ r ∈ rs, W.heap[r]? = some (.deferred (some []))) →
    (∀ W', GrS (fun b => b ∈ rs) W W' → R (.returned (.tuple #[])) W') → LeavesInM F n P fn tmps R (rs.map mkD) .returning W
  | [], W, _, _, h => ⟨_, results_none hfn _ _ _, h W (GrS.refl _ _)⟩
  | r :: rs, W, hn, hd, h => by
    have hn := List.nodup_cons.1 hn
    have h1 := hd r (by simp)
    refine ⟨by simp, .inl ⟨_, _, rfl, run_takeDeferred h1, leaves_all hfn rs _ hn.2 (fun q hq => ?_) (fun W' k => h W' ?_)⟩⟩
    · rw [World.putObj_heap_other (fun e => hn.1 (by rw [← e]; exact hq))]; exact hd q (by simp [hq])
    · refine GrS.trans (O := fun b => b ∈ r :: rs) (b := W.putObj r (.deferred none)) ⟨rfl, rfl, rfl, by simp, fun k hk hne => World.putObj_heap_other (fun e => hne (by simp [e]))⟩ k (fun x _ hx => by simp [hx])

/-- What stands while the first parts go down: y the yield's box, fb the first part's, rs the marks. -/
structure Ps (W0 : World) (J : (Nat → Prop) → List (List Int) → World → Prop) (lp y fb k : Nat) (rs : List Nat) (O : Nat → Prop) (acc : List (List Int)) (W : World) : Prop where
  j : J O acc W
  own : ∀ b, O b → W0.heap.size ≤ b ∧ b < W.heap.size
  yb : Cl y [.func (.yield lp) #[] #[]] 43 W
  yo : O y
  f : Cl fb [.int .i64 (k : Int)] 3 W
  fo : O fb
  nd : rs.Nodup
  md : ∀ r ∈ rs, W.heap[r]? = some (.deferred (some [])) ∧ O r
  sz : W0.heap.size ≤ W.heap.size

theorem roundIn_any {m m' l q : Nat} {P : Program} {f : FuncId} {tmps : Array Value} {assign body : Code} {w : World} {R : Ending → World → Prop} (h : RoundIn Fence.wide m P l f tmps assign body w R) : RoundIn (Fence.wide.inRound q) m' P l f tmps assign body w R := ⟨trivial, fun c cs _ => h.2 c cs (room_wide _)⟩
/-- What a round reads. -/
structure SL (y lp fb k : Nat) (W : World) : Prop where
  a : W.cell? ⟨y, 0, none⟩ = some (.func (.yield lp) #[] #[])
  b : W.cell? ⟨fb, 0, none⟩ = some (.int .i64 (k : Int))
/-- The blocks that are the iterator's while an inner one goes on. -/
def Ob (O : Nat → Prop) (b1 : Nat) (O' : Nat → Prop) (b : Nat) : Prop := O b ∨ b = b1 ∨ b = b1 + 1 ∨ b = b1 + 2 ∨ b = b1 + 3 ∨ O' b
/-- What stands while an inner iterator goes on. -/
structure Qs (J : (Nat → Prop) → List (List Int) → World → Prop) (lp y fb k n1 b1 : Nat) (rs : List Nat) (O : Nat → Prop) (acc : List (List Int)) (O' : Nat → Prop) (pre : List (List Int)) (W : World) : Prop where
  j : J (Ob O b1 O') (acc ++ pre.map fun r => ((k : Nat) : Int) :: r) W
  own : ∀ b, O' b → b1 + 2 ≤ b
  yb : Cl y [.func (.yield lp) #[] #[]] 43 W
  f : Cl fb [.int .i64 (k : Int)] 3 W
  c1 : Cl b1 [.int .i64 (n1 : Int)] 3 W
  c2 : Cl (b1 + 1) [.int .i64 (k : Int)] 3 W
  md : ∀ r ∈ rs, W.heap[r]? = some (.deferred (some []))
  sz : b1 + 2 ≤ W.heap.size
/-- What stands where it was left. -/
structure Xs (Jx : (Nat → Prop) → List (List Int) → World → Prop) (b1 : Nat) (rs : List Nat) (O O' : Nat → Prop) (W : World) : Prop where
  j : ∃ pre, Jx (Ob O b1 O') pre W
  own : ∀ b, O' b → b1 + 2 ≤ b
  md : ∀ r ∈ rs, W.heap[r]? = some (.deferred (some []))
  sz : b1 + 2 ≤ W.heap.size
theorem ob_grS {O O' : Nat → Prop} {b1 : Nat} {W W' : World} (h : GrS O' W W') : GrS (Ob O b1 O') W W' := ⟨h.os, h.tape, h.output, h.size, fun k h1 h2 => h.block k h1 (fun e => h2 (.inr (.inr (.inr (.inr (.inr e))))))⟩
theorem ob_new {O O' O'' : Nat → Prop} {b1 S : Nat} (h : ∀ b, O'' b → O' b ∨ S ≤ b) : ∀ b, Ob O b1 O'' b → Ob O b1 O' b ∨ S ≤ b := by
  rintro b (h1 | h1 | h1 | h1 | h1 | h1)
  · exact .inl (.inl h1)
  · exact .inl (.inr (.inl h1))
  · exact .inl (.inr (.inr (.inl h1)))
  · exact .inl (.inr (.inr (.inr (.inl h1))))
  · exact .inl (.inr (.inr (.inr (.inr (.inl h1)))))
  · rcases h b h1 with h2 | h2
    · exact .inl (.inr (.inr (.inr (.inr (.inr h2)))))
    · exact .inr h2
theorem put_grS (O : Nat → Prop) (W : World) (l : Nat) (ob : Obj) (hl : O l) : GrS O W (W.putObj l ob) := ⟨rfl, rfl, rfl, by simp, fun k _ h => World.putObj_heap_other (fun e => h (by rw [e]; exact hl))⟩
theorem Qs.turn {J : (Nat → Prop) → List (List Int) → World → Prop} {lp y fb k n1 b1 : Nat} {rs : List Nat} {O : Nat → Prop} {acc : List (List Int)} {O' O'' : Nat → Prop} {pre : List (List Int)} {W W' : World} (h : Qs J lp y fb k n1 b1 rs O acc O' pre W) (hJ : AbS AnyO J) (hy : y < b1) (hfb : fb < b1) (hrs : ∀ r ∈ rs, r < b1) (hg : GrS O' W W') (hn : ∀ b, O'' b → O' b ∨ W.heap.size ≤ b) : Qs J lp y fb k n1 b1 rs O acc O'' pre W' := by
  have keep : ∀ b, b < b1 + 2 → W'.heap[b]? = W.heap[b]? := fun b hb => hg.block b (Nat.lt_of_lt_of_le hb h.sz) (fun e => by have := h.own b e; omega)
  refine ⟨hJ _ _ _ _ _ trivial h.j (ob_grS hg) (ob_new hn), fun b hb => ?_, (keep y (by omega)).trans h.yb, (keep fb (by omega)).trans h.f, (keep b1 (by omega)).trans h.c1, (keep (b1 + 1) (by omega)).trans h.c2, fun r hr => (keep r (by have := hrs r hr; omega)).trans (h.md r hr), Nat.le_trans h.sz hg.size⟩
  rcases hn b hb with e | e
  · exact h.own b e
  · have := h.sz; omega
theorem Qs.put {J : (Nat → Prop) → List (List Int) → World → Prop} {lp y fb k n1 b1 : Nat} {rs : List Nat} {O : Nat → Prop} {acc : List (List Int)} {O' : Nat → Prop} {pre : List (List Int)} {W : World} (h : Qs J lp y fb k n1 b1 rs O acc O' pre W) (hJ : AbS AnyO J) (hy : y < b1) (hfb : fb < b1) (hrs : ∀ r ∈ rs, r < b1) (ob : Obj) : Qs J lp y fb k n1 b1 rs O acc O' pre (W.putObj (b1 + 3) ob) := by
  have keep : ∀ b, b < b1 + 2 → (W.putObj (b1 + 3) ob).heap[b]? = W.heap[b]? := fun b hb => World.putObj_heap_other (by omega)
  exact ⟨hJ _ _ _ _ _ trivial h.j (put_grS _ W (b1 + 3) ob (.inr (.inr (.inr (.inr (.inl rfl)))))) (fun b h => .inl h), h.own, (keep y (by omega)).trans h.yb, (keep fb (by omega)).trans h.f, (keep b1 (by omega)).trans h.c1, (keep (b1 + 1) (by omega)).trans h.c2, fun r hr => (keep r (by have := hrs r hr; omega)).trans (h.md r hr), by simpa using h.sz⟩
theorem Xs.turn {Jx : (Nat → Prop) → List (List Int) → World → Prop} {b1 : Nat} {rs : List Nat} {O O' O'' : Nat → Prop} {W W' : World} (h : Xs Jx b1 rs O O' W) (hJ : AbS AnyO Jx) (hrs : ∀ r ∈ rs, r < b1) (hg : GrS O' W W') (hn : ∀ b, O'' b → O' b ∨ W.heap.size ≤ b) : Xs Jx b1 rs O O'' W' := by
  obtain ⟨pre, hj⟩ := h.j
  refine ⟨⟨pre, hJ _ _ _ _ _ trivial hj (ob_grS hg) (ob_new hn)⟩, fun b hb => ?_, fun r hr => (hg.block r (by have := hrs r hr; have := h.sz; omega) (fun e => by have := h.own r e; have := hrs r hr; omega)).trans (h.md r hr), Nat.le_trans h.sz hg.size⟩
  rcases hn b hb with e | e
  · exact h.own b e
  · have := h.sz; omega
theorem Xs.put {Jx : (Nat → Prop) → List (List Int) → World → Prop} {b1 : Nat} {rs : List Nat} {O O' : Nat → Prop} {W : World} (h : Xs Jx b1 rs O O' W) (hJ : AbS AnyO Jx) (hrs : ∀ r ∈ rs, r < b1) (ob : Obj) : Xs Jx b1 rs O O' (W.putObj (b1 + 3) ob) := by
  obtain ⟨pre, hj⟩ := h.j
  exact ⟨⟨pre, hJ _ _ _ _ _ trivial hj (put_grS _ W (b1 + 3) ob (.inr (.inr (.inr (.inr (.inl rfl)))))) (fun b h => .inl h)⟩, h.own, fun r hr => (World.putObj_heap_other (by have := hrs r hr; omega)).trans (h.md r hr), by simpa using h.sz⟩
def frP (lp bn bm y fb n m K : Nat) (u5 u13 u14 u15 u16 u17 u18 u19 u20 u21 u22 u23 u24 u25 u26 u27 u28 u29 u30 : Value) : Array Value := #[.func (.yield lp) #[] #[], .pointer (some ⟨bn, 0, none⟩), .pointer (some ⟨bm, 0, none⟩), .pointer (some ⟨y, 0, none⟩), .pointer (some ⟨fb, 0, none⟩), u5, .int .i64 (n : Int), .bool false, undef, undef, .int .i64 (n : Int), .int .i64 (m : Int), .int .i64 (K : Int), u13, u14, u15, u16, u17, u18, u19, u20, u21, u22, u23, u24, u25, u26, u27, u28, u29, u30]

set_option maxRecDepth 100000 in
set_option maxHeartbeats 8000000 in
theorem parts_yields : ∀ (f n m : Nat), n ≤ f → n ≤ 25 → m ≤ 25 → ∀ bn bm nF, f + 3 ≤ nF → YieldsS AnyO Fence.wide nF Tryd.prog 44 #[.pointer (some ⟨bn, 0, none⟩), .pointer (some ⟨bm, 0, none⟩)] enL (CL n m bn bm) (PT.ptl f n m) := by
  intro f
  induction f with
  | zero =>
    intro n m hnf hn25 hm25 bn bm nF hnF lp J Jx W hJ hJx hC hY h0
    obtain rfl : n = 0 := by omega
    have hpt : PT.ptl 0 0 m = [[]] := by rw [PT.ptl, if_pos rfl]
    rw [hpt] at hY
    rw [hpt]
    have c0 : ∀ o : Obj, (W.alloc o).cell? ⟨bn, 0, none⟩ = some (.int .i64 ((0 : Nat) : Int)) := fun o => ((hC _ _ _ h0).1.alloc o).cell 0
    have hW1 : J No [] (W.alloc (.cells #[.func (.yield lp) #[] #[]] 43)) := hJ _ _ _ _ _ trivial h0 (GrS.of (World.grownBy_alloc W _ none) (fun g e => by cases e)) (fun b h => .inl h)
    obtain ⟨fn, tmps, assign, body, hy, hRd⟩ := hY No [] [] _ #[.slice none 0 0] trivial hW1 (fun g e => e.elim) (by simp) (List.prefix_refl _) ⟨_, rfl, .inl ⟨rfl, rfl⟩⟩
    clear hY hC hJ hJx h0 hW1
    refine callsIn_of_wp_marks Tryd.func44 rfl trivial ?_ rfl
    simp only [Tryd.ntmps44, List.size_toArray, List.length_cons, List.length_nil, Nat.reduceAdd, Nat.reduceSub, Array.replicate_succ, Array.replicate_zero, List.push_toArray, List.append_toArray, List.nil_append, List.cons_append]
    gi_wp2
    refine ⟨fun _ => by omega, hRd.mono ?_⟩
    rintro e W' ⟨⟨rfl, hJ'⟩ | ⟨rfl, hJx'⟩, _, _⟩
    · gi_wp2
      exact ⟨_, results_none rfl _ _ _, ⟨_, rfl⟩, .inl ⟨_, trivial, hJ'⟩⟩
    · gi_wp2
      exact ⟨_, results_none rfl _ _ _, ⟨_, rfl⟩, .inr ⟨_, _, hJx'⟩⟩
  | succ f ih =>
    intro n m hnf hn25 hm25 bn bm nF hnF lp J Jx W hJ hJx hC hY h0
    have HJ : Hid (AbS AnyO J) := hJ
    have HJx : Hid (AbS AnyO Jx) := hJx
    have HC : Hid (∀ O s W1, J O s W1 → CL n m bn bm W1) := hC
    have HY : Hid (∀ O pre x W1 vs, AnyO O → J O pre W1 → (∀ g, O g → W.heap.size ≤ g ∧ g < W1.heap.size) → W.heap.size ≤ W1.heap.size → pre ++ [x] <+: PT.ptl (f + 1) n m → enL x O W1 vs → YieldAt Fence.wide (nF - 1) Tryd.prog lp vs W1 fun e W' =>
      ((e = .returned (.bool true) ∧ J O (pre ++ [x]) W') ∨ (e = .returned (.bool false) ∧ Jx O (pre ++ [x]) W')) ∧ W1.heap.size ≤ W'.heap.size ∧ ∀ g, O g → W'.heap[g]? = W1.heap[g]?) := hY
    have H0 : Hid (J No [] W) := h0
    have c0 : ∀ o : Obj, (W.alloc o).cell? ⟨bn, 0, none⟩ = some (.int .i64 (n : Int)) := fun o => ((hC _ _ _ h0).1.alloc o).cell 0
    have c1 : ∀ o : Obj, (W.alloc o).cell? ⟨bm, 0, none⟩ = some (.int .i64 (m : Int)) := fun o => ((hC _ _ _ h0).2.alloc o).cell 0
    have IH : Hid (∀ (n m : Nat), n ≤ f → n ≤ 25 → m ≤ 25 → ∀ bn bm nF, f + 3 ≤ nF → YieldsS AnyO Fence.wide nF Tryd.prog 44 #[.pointer (some ⟨bn, 0, none⟩), .pointer (some ⟨bm, 0, none⟩)] enL (CL n m bn bm) (PT.ptl f n m)) := ih
    clear hJ hJx hC hY h0 ih
    refine callsIn_of_wp_marks Tryd.func44 rfl trivial ?_ rfl
    simp only [Tryd.ntmps44, List.size_toArray, List.length_cons, List.length_nil, Nat.reduceAdd, Nat.reduceSub, Array.replicate_succ, Array.replicate_zero, List.push_toArray, List.append_toArray, List.nil_append, List.cons_append]
    by_cases hn0 : n = 0
    · subst hn0
      have HW1 : Hid (J No [] (W.alloc (.cells #[.func (.yield lp) #[] #[]] 43))) := HJ.out _ _ _ _ _ trivial H0.out (GrS.of (World.grownBy_alloc W _ none) (fun g e => by cases e)) (fun b h => .inl h)
      have hpt : PT.ptl (f + 1) 0 m = [[]] := by rw [PT.ptl, if_pos rfl]
      rw [hpt] at HY
      obtain ⟨fn, tmps, assign, body, hy, hRd⟩ := HY.out No [] [] _ #[.slice none 0 0] trivial HW1.out (fun g e => e.elim) (by simp) (List.prefix_refl _) ⟨_, rfl, .inl ⟨rfl, rfl⟩⟩
      rw [hpt]
      gi_wp2
      refine ⟨fun _ => by omega, hRd.mono ?_⟩
      rintro e W' ⟨⟨rfl, hJ'⟩ | ⟨rfl, hJx'⟩, _, _⟩
      · gi_wp2
        exact ⟨_, results_none rfl _ _ _, ⟨_, rfl⟩, .inl ⟨_, trivial, hJ'⟩⟩
      · gi_wp2
        exact ⟨_, results_none rfl _ _ _, ⟨_, rfl⟩, .inr ⟨_, _, hJx'⟩⟩
    · have t0 : ((n : Int) == 0) = false := beq_eq_false_iff_ne.2 (by omega)
      obtain ⟨K, hK⟩ : ∃ K, K = min n m := ⟨_, rfl⟩
      have hmn : min (n : Int) (m : Int) = (K : Int) := by omega
      have HPt : Hid (PT.ptl (f + 1) n m = PT.pacc f n K K ∧ K ≤ n ∧ K ≤ 25) := ⟨by rw [PT.ptl_succ hn0, hK], by omega, by omega⟩
      rw [HPt.out.1] at HY
      rw [HPt.out.1]
      clear hK
      gi_wp2
      obtain ⟨y, hy⟩ : ∃ y, y = W.heap.size := ⟨_, rfl⟩
      obtain ⟨W1, hW1⟩ : ∃ X, X = W.alloc (.cells #[.func (.yield lp) #[] #[]] 43) := ⟨_, rfl⟩
      obtain ⟨W2, hW2⟩ : ∃ X, X = W1.alloc (.cells #[.int .i64 (K : Int)] 3) := ⟨_, rfl⟩
      have z1 : W1.heap.size = W.heap.size + 1 := by rw [hW1]; simp
      have z2 : W2.heap.size = W.heap.size + 2 := by rw [hW2]; simp; omega
      have C1 : Cl y [.func (.yield lp) #[] #[]] 43 W2 := by rw [hW2, hy]; refine Cl.alloc ?_ _; rw [hW1]; exact Cl.new _ _ W
      have C2 : Cl (y + 1) [.int .i64 (K : Int)] 3 W2 := by rw [hW2, hy, ← z1]; exact Cl.new _ _ W1
      have HP0 : Hid (Ps W J lp y (y + 1) K [] (fun b => b = y ∨ b = y + 1) (PT.pacc f n K 0) W2) := by
        refine ⟨?_, fun b hb => by omega, C1, .inl rfl, C2, .inr rfl, List.nodup_nil, fun r hr => by simp at hr, by omega⟩
        have g1 : GrS No W W1 := by rw [hW1]; exact GrS.of (World.grownBy_alloc W _ none) (fun g e => by cases e)
        have g2 : GrS No W1 W2 := by rw [hW2]; exact GrS.of (World.grownBy_alloc W1 _ none) (fun g e => by cases e)
        exact HJ.out _ _ _ _ _ trivial H0.out (g1.trans g2 (fun x _ h => h)) (fun b hb => .inr (by omega))
      rw [← hW1, ← hW2, ← hy]
      have HSz : Hid (y = W.heap.size) := hy
      clear hW1 hW2 z1 z2 C1 C2 hy c0 c1 hmn t0 H0
      clear W1
      refine wpIn_loop_ghost_k (fun k a w => k ≤ K ∧ ∃ (fb : Nat) (rs : List Nat) (O : Nat → Prop) (u5 u13 u14 u15 u16 u17 u18 u19 u20 u21 u22 u23 u24 u25 u26 u27 u28 u29 u30 : Value), a = { tmps := frP lp bn bm y fb n m K u5 u13 u14 u15 u16 u17 u18 u19 u20 u21 u22 u23 u24 u25 u26 u27 u28 u29 u30, defers := rs.map mkD } ∧ Hid (Ps W J lp y fb k rs O (PT.pacc f n K (K - k)) w)) K ⟨Nat.le_refl _, y + 1, [], _, _, _, _, _, _, _, _, _, _, _, _, _, _, _, _, _, _, _, _, rfl, by rw [Nat.sub_self]; exact HP0.out⟩ ?_
      clear HP0
      intro k a w hI J' K' hJK hHK
      obtain ⟨hkK, fb, rs, O, u5, u13, u14, u15, u16, u17, u18, u19, u20, u21, u22, u23, u24, u25, u26, u27, u28, u29, u30, rfl, HP⟩ := hI
      unfold frP
      have hcl := HC.out _ _ _ HP.out.j
      have q0 := hcl.1.cell 0
      have q1 := HP.out.f.cell 0
      simp only [List.getElem?_cons_zero] at q0 q1
      have HCl : Hid (CL n m bn bm w) := hcl
      clear hcl
      by_cases hk : k = 0
      · have tk : decide (1 ≤ (k : Int)) = false := decide_eq_false (by omega)
        gi_wp2
        refine leaves_all rfl rs w HP.out.nd (fun r hr => (HP.out.md r hr).1) (fun W' hg => ⟨⟨_, rfl⟩, .inl ⟨O, trivial, ?_⟩⟩)
        have := HP.out.j
        rw [hk, Nat.sub_zero] at this
        exact HJ.out _ _ _ _ _ trivial this ⟨hg.os, hg.tape, hg.output, hg.size, fun b h1 h2 => hg.block b h1 (fun e => h2 (HP.out.md b e).2)⟩ (fun b h => .inl h)
      · have tk : decide (1 ≤ (k : Int)) = true := decide_eq_true (by omega)
        have hsub : (n : Int) - (k : Int) = ((n - k : Nat) : Int) := by have := HPt.out.2; omega
        have hkn : k ≤ n := by have := HPt.out.2; omega
        gi_wp2
        refine ⟨trivial, fun _ => by omega, ?_⟩
        refine (callsIn_wide.2 (partitions_any ((n - k : Nat) : Int) (k : Int) w)).mono ?_
        rintro e w2 ⟨rfl, hw2⟩
        obtain ⟨b1, hb1⟩ : ∃ b, b = w.heap.size := ⟨_, rfl⟩
        have z2 : w2.heap.size = b1 + 2 := by rw [hw2, hb1]; simp
        have hP := HP.out
        have HB : Hid (y < b1 ∧ fb < b1 ∧ (∀ r ∈ rs, r < b1) ∧ W.heap.size ≤ b1 ∧ (∀ b, O b → W.heap.size ≤ b ∧ b < b1)) := ⟨by rw [hb1]; exact hP.yb.lt, by rw [hb1]; exact hP.f.lt, fun r hr => by rw [hb1]; exact (Array.getElem?_eq_some_iff.1 (hP.md r hr).1).1, by rw [hb1]; exact hP.sz, by rw [hb1]; exact hP.own⟩
        have HQ0 : Hid (Qs J lp y fb k (n - k) b1 rs O (PT.pacc f n K (K - k)) No [] w2) := by
          have g1 := below_one w (.cells #[.int .i64 ((n - k : Nat) : Int)] 3)
          have g2 := below_one (w.alloc (.cells #[.int .i64 ((n - k : Nat) : Int)] 3)) (.cells #[.int .i64 (k : Int)] 3)
          have g3 := g1.trans (g2.mono g1.size)
          rw [← hw2] at g3
          have a1 : Cl b1 [.int .i64 ((n - k : Nat) : Int)] 3 w2 := by rw [hw2, hb1]; exact (Cl.new _ _ w).alloc _
          have a2 : Cl (b1 + 1) [.int .i64 (k : Int)] 3 w2 := by
            rw [hw2, hb1]
            have := Cl.new [.int .i64 (k : Int)] 3 (w.alloc (.cells #[.int .i64 ((n - k : Nat) : Int)] 3))
            rw [World.size_alloc] at this
            exact this
          refine ⟨?_, fun b h => h.elim, hP.yb.below g3, hP.f.below g3, a1, a2, fun r hr => (g3.block r (Array.getElem?_eq_some_iff.1 (hP.md r hr).1).1).trans (hP.md r hr).1, by omega⟩
          rw [List.map_nil, List.append_nil]
          refine HJ.out _ _ _ _ _ trivial hP.j (GrS.below g3) (fun b hb => ?_)
          rcases hb with h | h | h | h | h | h
          · exact .inl h
          all_goals first | exact h.elim | exact .inr (by omega)
        have HPn : Hid (rs.Nodup ∧ O y ∧ O fb ∧ ∀ r ∈ rs, O r) := ⟨hP.nd, hP.yo, hP.fo, fun r hr => (hP.md r hr).2⟩
        rw [← hb1]
        have HKk : Hid (K - (K - k) = k ∧ K - k < K ∧ K - k + 1 = K - (k - 1)) := ⟨by omega, by omega, by omega⟩
        clear hw2 hP hb1 q0 q1 HP HCl
        gi_wp2
        refine wpIn_rangeS (A := AnyO) trivial (F := Fence.wide) (n := nF) rfl (by omega) (gf := 44) (lb := #[.pointer (some ⟨b1, 0, none⟩), .pointer (some ⟨b1 + 1, 0, none⟩)]) rfl trivial (enters_of Tryd.func44 (by kernel_rfl) rfl) (IH.out (n - k) k (by omega) (by omega) (by omega) b1 (b1 + 1) (nF - 1) (by omega)) (fun x O W vs h => by obtain ⟨v, rfl, _⟩ := h; rfl)
          (Qs J lp y fb k (n - k) b1 rs O (PT.pacc f n K (K - k)))
          (fun c O' pre W => c = .ret ∧ Xs Jx b1 rs O O' W)
          ?ab ?abx ?abp ?abq (fun O' s W h => ⟨h.c1, h.c2⟩) ?hep HQ0.out
          (fun vs => { tmps := frP lp bn bm y fb n m K (vs.getD 0 undef) (.int .i64 (k : Int)) (.bool true) u15 u16 (.int .i64 (n : Int)) (.int .i64 (k : Int)) (.int .i64 ((n - k : Nat) : Int)) (.int .i64 (k : Int)) (.func (.func 44) #[] #[.pointer (some ⟨b1, 0, none⟩), .pointer (some ⟨b1 + 1, 0, none⟩)]) (vs.getD 0 undef) u23 u24 u25 u26 u27 u28 u29 u30, defers := [] }) ?assign ?body ?done ?stop
        case ab => exact fun O1 O2 s X Y _ h hg hn => h.turn HJ.out HB.out.1 HB.out.2.1 HB.out.2.2.1 hg hn
        case abx => exact fun c O1 O2 s X Y _ h hg hn => ⟨h.1, h.2.turn HJx.out HB.out.2.2.1 hg hn⟩
        case abp => exact fun O1 s X ob h => by rw [z2]; exact h.put HJ.out HB.out.1 HB.out.2.1 HB.out.2.2.1 ob
        case abq => exact fun c O1 s X ob h => ⟨h.1, by rw [z2]; exact h.2.put HJx.out HB.out.2.2.1 ob⟩
        case hep =>
          rintro x O1 X vs ob s h ⟨v, rfl, hv⟩ hnl
          refine ⟨v, rfl, hv.kept (fun g hg hO ⟨arr, fr, hb⟩ => ⟨World.putObj_heap_other (fun e => ?_), hO⟩)⟩
          rw [e] at hb
          exact hnl _ _ _ hb
        case assign =>
          rintro l x O1 vs X K2 ⟨v, rfl, hv⟩ hK2
          gi_wp2
          simpa [frP] using hK2
        case body =>
          rintro l O1 pre x vs X _ hQ hog hpre hz ⟨v, rfl, hv⟩ hnl
          rw [z2] at hog hz
          have hx25 : x.length ≤ 1000 := by
            have h1 := PT.ptl_each f (n - k) k (by omega) x (hpre.subset (by simp))
            have := row_lenP (n := n - k) (fun j hj => (h1.rng j hj).1) h1.sum
            omega
          have HPre : Hid ((PT.pacc f n K (K - k) ++ pre.map fun r => ((k : Nat) : Int) :: r) ++ [((k : Nat) : Int) :: x] <+: PT.pacc f n K K) := by
            have := PT.pacc_at f n K (K - k) HKk.out.2.1 (pre := pre) (x := x) (by rw [HKk.out.1]; exact hpre)
            rw [HKk.out.1] at this
            exact this
          obtain ⟨s, hs⟩ : ∃ s, s = X.heap.size := ⟨_, rfl⟩
          obtain ⟨Xa, hXa⟩ : ∃ Y, Y = (X.alloc (.cells #[.int .i64 (k : Int)] 3)).drew := ⟨_, rfl⟩
          have ka : Below X.heap.size X Xa := by rw [hXa]; exact Below.drew (below_one X _)
          have za : Xa.heap.size = s + 1 := by rw [hXa, hs]; simp [World.drew]
          have Ca : Cl s [.int .i64 (k : Int)] 3 Xa := by rw [hXa, hs]; exact (Cl.new [.int .i64 (k : Int)] 3 X).drew
          have hOb : ∀ g, Ob O b1 O1 g → W.heap.size ≤ g ∧ g < s := by
            have hB := HB.out
            rintro g (h | h | h | h | h | h)
            · have := hB.2.2.2.2 g h; omega
            · omega
            · omega
            · omega
            · omega
            · have := hog g h; omega
          have HOb : Hid (∀ g, Ob O b1 O1 g → W.heap.size ≤ g ∧ g < s) := hOb
          have hva : FrL O1 Xa v x := hv.kept (fun g hg hO _ => ⟨ka.block g hg, hO⟩)
          obtain ⟨v', Xb, hrun, hfr, hgrow⟩ := append_fr (O' := Ob O b1 O1) 36 (k : Int) s hva hx25 Ca (fun h => by have := (hOb _ h).2; omega) (fun h => by have := (hOb _ h).2; omega)
          have kb : Below X.heap.size X Xb := ka.grown hgrow ka.size (fun j hj => by cases hj; omega)
          have HKb : Hid (Below X.heap.size X Xb) := kb
          have hJb : J (Ob O b1 O1) (PT.pacc f n K (K - k) ++ pre.map fun r => ((k : Nat) : Int) :: r) Xb := HJ.out _ _ _ _ _ trivial hQ.j (GrS.below kb) (fun b h => .inl h)
          obtain ⟨fn, tmps, assign, body, hy, hRd⟩ := HY.out (Ob O b1 O1) _ (((k : Nat) : Int) :: x) Xb #[v'] trivial hJb (fun g hg => ⟨(hOb g hg).1, by have := (hOb g hg).2; have := kb.size; omega⟩) (by have := kb.size; have := HB.out.2.2.2.1; omega) HPre.out ⟨v', rfl, hfr⟩
          have HRd := roundIn_any (m' := nF - 1 - 1 - 1) (q := l) hRd
          have HQ : Hid (Qs J lp y fb k (n - k) b1 rs O (PT.pacc f n K (K - k)) O1 pre X) := hQ
          have HSl : Hid (∀ X', Below X.heap.size X X' → SL y lp fb k X') := fun X' kk => ⟨(hQ.yb.below kk).cell 0, (hQ.f.below kk).cell 0⟩
          have HRun : Hid ((Builtin.append_ #[36, 36] 36 #[.slice (some ⟨s, 0, none⟩) 1 1, v]).run Tryd.prog Xa = .ok v' Xb) := hrun
          have hsl := HSl.out X.drew (Below.drew (Below.refl _ _))
          have hgv : (#[v] : Array Value).getD 0 undef = v := rfl
          rw [hgv]
          unfold frP
          have HKa : Hid (Below X.heap.size X Xa) := ka
          have HSx : Hid (s = X.heap.size) := hs
          clear hQ hv hx25 ka za Ca hOb hva hrun hfr hgrow kb hJb hRd hnl hog hpre hgv
          gi_wp2
          refine wpIn_region_G (SL y lp fb k) 6 (by kernel_rfl) hsl (fun hHeld => ?_)
          refine wpAnyGIn_take (i := 0) (v := ?v0x1) rfl (by kernel_rfl) (fun _ _ _ h => h) (Or.inl ⟨by rfl, ?y0x1⟩) hHeld ?r0x1
          case y0x1 => (intro wS hSw; obtain ⟨s1, s2⟩ := hSw; go_simp; try with_reducible rfl)
          simp only [Act.put, List.getElem_toArray, List.getElem_cons_zero, List.getElem_cons_succ, List.setIfInBounds_toArray, List.set_cons_zero, List.set_cons_succ]
          refine wpAnyGIn_take (i := 1) (v := ?v1x2) rfl (by kernel_rfl) (fun _ _ _ h => h) (Or.inl ⟨by rfl, ?y1x2⟩) hHeld ?r1x2
          case y1x2 => (intro wS hSw; obtain ⟨s1, s2⟩ := hSw; go_simp; try with_reducible rfl)
          simp only [Act.put, List.getElem_toArray, List.getElem_cons_zero, List.getElem_cons_succ, List.setIfInBounds_toArray, List.set_cons_zero, List.set_cons_succ]
          refine wpAnyGIn_take (i := 3) (v := ?v3x3) rfl (by kernel_rfl) (fun _ _ _ h => h) (Or.inl ⟨by rfl, ?y3x3⟩) hHeld ?r3x3
          case y3x3 => (intro wS hSw; obtain ⟨s1, s2⟩ := hSw; go_simp; try with_reducible rfl)
          simp only [Act.put, List.getElem_toArray, List.getElem_cons_zero, List.getElem_cons_succ, List.setIfInBounds_toArray, List.set_cons_zero, List.set_cons_succ]
          refine wpAnyGIn_one (i := 2) rfl (by kernel_rfl) (fun K hK => ?_)
          go_simp
          rw [← hs, ← hXa]
          refine hK.out _ _ (HSl.out Xa HKa.out) ?_
          clear hK K
          clear hXa hs
          refine wpAnyGIn_one (i := 4) rfl (by kernel_rfl) (fun K hK => ?_)
          rw [if_pos (by kernel_rfl)]
          refine operIn_append Xa _ _ 36 rfl _ _ v' Xb (by kernel_rfl) (by kernel_rfl) HRun.out ?_
          refine hK.out _ _ (HSl.out Xb HKb.out) ?_
          clear hK K
          refine wpAnyGIn_one (i := 5) rfl (by kernel_rfl) (fun K hK => ?_)
          go_simp
          refine ⟨fun _ => by omega, HRd.mono ?_⟩
          rintro e X2 ⟨hor, hz2, hkeep⟩
          have hkp : ∀ b, Ob O b1 O1 b → X2.heap[b]? = X.heap[b]? := fun b hb => (hkeep b hb).trans (HKb.out.block b (by have := (HOb.out b hb).2; have := HSx.out; omega))
          have hzz : X.heap.size ≤ X2.heap.size := Nat.le_trans HKb.out.size hz2
          have hyb : Cl y [.func (.yield lp) #[] #[]] 43 X2 := (hkp y (.inl HPn.out.2.1)).trans HQ.out.yb
          have hfb : Cl fb [.int .i64 (k : Int)] 3 X2 := (hkp fb (.inl HPn.out.2.2.1)).trans HQ.out.f
          have hmd : ∀ r ∈ rs, X2.heap[r]? = some (.deferred (some [])) := fun r hr => (hkp r (.inl (HPn.out.2.2.2 r hr))).trans (HQ.out.md r hr)
          have hkp2 : KP (keptS w2.heap.size O1) X X2 := ⟨hzz, fun b hb _ => hkp b (by
            rcases hb with e | e | e
            · exact .inr (.inr (.inr (.inl (by omega))))
            · exact .inr (.inr (.inr (.inr (.inl (by omega)))))
            · exact .inr (.inr (.inr (.inr (.inr e)))))⟩
          have hs2 : SL y lp fb k X2 := ⟨hyb.cell 0, hfb.cell 0⟩
          have HK2 : Hid (KP (keptS w2.heap.size O1) X X2 ∧ Cl y [.func (.yield lp) #[] #[]] 43 X2 ∧ Cl fb [.int .i64 (k : Int)] 3 X2 ∧ (∀ r ∈ rs, X2.heap[r]? = some (.deferred (some []))) ∧ Cl b1 [.int .i64 ((n - k : Nat) : Int)] 3 X2 ∧ Cl (b1 + 1) [.int .i64 (k : Int)] 3 X2 ∧ b1 + 2 ≤ X2.heap.size) := ⟨hkp2, hyb, hfb, hmd, (hkp b1 (.inr (.inl rfl))).trans HQ.out.c1, (hkp (b1 + 1) (.inr (.inr (.inl rfl)))).trans HQ.out.c2, Nat.le_trans HQ.out.sz hzz⟩
          rcases hor with ⟨rfl, hj2⟩ | ⟨rfl, hj2⟩
          · have HJ2 : Hid (J (Ob O b1 O1) _ X2) := hj2
            clear hj2 hkp hzz hyb hfb hmd hkp2 hkeep hz2 hy
            go_simp
            refine hK.out _ _ hs2 ?_
            clear hK K
            refine wpAnyGIn_last (i := 6) rfl (by kernel_rfl) (by kernel_rfl) (fun K hK => ?_)
            go_simp
            refine hK.out _ _ ?_
            clear hK K
            refine wpAnyGIn_done (by kernel_rfl) ?_ _
            gi_wp2
            refine ⟨HK2.out.1, ?_, HQ.out.own, HK2.out.2.1, HK2.out.2.2.1, HK2.out.2.2.2.2.1, HK2.out.2.2.2.2.2.1, HK2.out.2.2.2.1, HK2.out.2.2.2.2.2.2⟩
            rw [List.map_append, ← List.append_assoc]
            exact HJ2.out
          · have HJ2 : Hid (Jx (Ob O b1 O1) _ X2) := hj2
            clear hj2 hkp hzz hyb hfb hmd hkp2 hkeep hz2 hy
            go_simp
            refine hK.out _ _ hs2 ?_
            clear hK K
            refine wpAnyGIn_last (i := 6) rfl (by kernel_rfl) (by kernel_rfl) (fun K hK => ?_)
            go_simp
            refine hK.out _ _ ?_
            clear hK K
            refine wpAnyGIn_done (by kernel_rfl) ?_ _
            gi_wp2
            exact ⟨HK2.out.1, rfl, ⟨_, HJ2.out⟩, HQ.out.own, HK2.out.2.2.2.1, HK2.out.2.2.2.2.2.2⟩
        case done =>
          intro O1 X _ hQ hd
          have q0 := (HC.out _ _ _ hQ.j).1.cell 0
          have q1 := hQ.f.cell 0
          simp only [List.getElem?_cons_zero] at q0 q1
          rw [z2] at hd ⊢
          have HQ : Hid (Qs J lp y fb k (n - k) b1 rs O (PT.pacc f n K (K - k)) O1 (PT.ptl f (n - k) k) X ∧ X.heap[b1 + 2]? = some (.deferred (some []))) := ⟨hQ, hd⟩
          clear hQ hd
          gi_wp2
          have hQ := HQ.out.1
          have hd := HQ.out.2
          have hdl : b1 + 2 < X.heap.size := (Array.getElem?_eq_some_iff.1 hd).1
          have hB := HB.out
          have ka := below_one X (.cells #[.int .i64 ((k : Int) - 1)] 3)
          have zX : (X.alloc (.cells #[.int .i64 ((k : Int) - 1)] 3)).heap.size = X.heap.size + 1 := World.size_alloc _ _
          have hacc : PT.pacc f n K (K - (k - 1)) = PT.pacc f n K (K - k) ++ (PT.ptl f (n - k) k).map fun r => ((k : Nat) : Int) :: r := by
            rw [← HKk.out.2.2, PT.pacc_succ, HKk.out.1]
          refine Handed.intro (k - 1) (by omega) (hJK _ _ _ ⟨by omega, X.heap.size, (b1 + 2) :: rs, fun b => O b ∨ b = b1 + 2 ∨ b = X.heap.size, _, _, _, _, _, _, _, _, _, _, _, _, _, _, _, _, _, _, _, rfl, ?_⟩)
          refine ⟨?_, ?_, hQ.yb.alloc _, .inl HPn.out.2.1, ?_, .inr (.inr rfl), List.nodup_cons.2 ⟨fun h => by have := hB.2.2.1 _ h; omega, HPn.out.1⟩, ?_, by omega⟩
          · rw [hacc]
            refine HJ.out _ _ _ _ _ trivial hQ.j (GrS.below ka) ?_
            rintro b (h | h | h)
            · exact .inl (.inl h)
            · exact .inl (.inr (.inr (.inr (.inl h))))
            · exact .inr (by omega)
          · rintro b (h | h | h)
            · have := hB.2.2.2.2 b h; omega
            · omega
            · omega
          · rw [show ((k - 1 : Nat) : Int) = (k : Int) - 1 by omega]
            exact Cl.new _ _ X
          · intro r hr
            rcases List.mem_cons.1 hr with e | e
            · rw [e]; exact ⟨(ka.block _ hdl).trans hd, .inr (.inl rfl)⟩
            · have := hB.2.2.1 r e
              exact ⟨(ka.block _ (by omega)).trans (hQ.md r e), .inl (HPn.out.2.2.2 r e)⟩
        case stop =>
          rintro c O1 pre X ⟨rfl, hX⟩ hd
          rw [z2] at hd ⊢
          obtain ⟨pre', hj⟩ := hX.j
          gi_wp2
          refine leaves_all rfl ((b1 + 2) :: rs) X (List.nodup_cons.2 ⟨fun h => by have := HB.out.2.2.1 _ h; omega, HPn.out.1⟩) (fun r hr => ?_) (fun W' hg => ⟨⟨_, rfl⟩, .inr ⟨_, _, HJx.out _ (Ob O b1 O1) _ _ _ trivial hj ⟨hg.os, hg.tape, hg.output, hg.size, fun b h1 h2 => hg.block b h1 (fun e => h2 ?_)⟩ (fun b h => .inl h)⟩⟩)
          · rcases List.mem_cons.1 hr with e | e
            · rw [e]; exact hd
            · exact hX.md r e
          · rcases List.mem_cons.1 e with e | e
            · exact .inr (.inr (.inr (.inl e)))
            · exact .inl (HPn.out.2.2.2 b e)

end Go.Proofs.YtmifenflbaohnaaDoor
