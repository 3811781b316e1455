/- joined at the example (-1 by 5): one choice of the one family. Made of RsE by rtx.py. -/
import Derived.Test.YtoionlnbodfhlacGreatDoorRsD
import Derived.Maps.AppendAt
set_option linter.unusedSimpArgs false
set_option linter.unusedVariables false
set_option maxRecDepth 100000
namespace Go.Proofs.YtoionlnbodfhlacGreatDoor.R5
open Go.RowKit

/-- Where joined's variables and the families lie. -/
structure Jx where
  bF : Nat
  bL : Nat
  bC : Nat
  gf : Nat
  g1 : Nat
  g2 : Nat
  cf : Nat
  B : Nat

def Jx.clo (j : Jx) : Value := .func (.func 76) #[] #[.pointer (some ⟨j.bF, 0, none⟩), .pointer (some ⟨j.bL, 0, none⟩), .pointer (some ⟨j.bC, 0, none⟩)]

/-- joined's variables: the list holds xs. -/
structure JS (j : Jx) (xs : List Int) (a : Option Addr) (c : Nat) (W : World) : Prop where
  F : Cl j.bF [.slice (some ⟨j.gf, 0, none⟩) 1 j.cf] 69 W
  C : Cl j.bC [j.clo] 101 W
  L : Cl j.bL [.slice a xs.length c] 34 W
  row : W.ownsRow j.B 3 1 (.slice a xs.length c) xs.length (ints xs)
  fam : ∀ k v, (fam j.g2 5)[k]? = some v → W.cell? ⟨j.gf, k, none⟩ = some v
  c1 : Cl j.g1 [.int .i64 3, .int .i64 2] 3 W
  c2 : Cl j.g2 [.int .i64 3, .int .i64 2] 3 W
  lt : j.bF < j.B ∧ j.bL < j.B ∧ j.bC < j.B ∧ j.gf < j.B ∧ j.g1 < j.B ∧ j.g2 < j.B ∧ j.B ≤ W.heap.size ∧ 1 ≤ j.cf
  ne : j.bF ≠ j.bL ∧ j.bC ≠ j.bL ∧ j.gf ≠ j.bL ∧ j.g1 ≠ j.bL ∧ j.g2 ≠ j.bL

/-- A block that the list's variable and its row do not touch. -/
def Loc (j : Jx) (a : Option Addr) (k : Nat) : Prop := k ≠ j.bL ∧ ∀ ad, a = some ad → k ≠ ad.block
/-- From one world to a later one: all is as it was but the list. -/
structure Fr (j : Jx) (a : Option Addr) (W : World) (a' : Option Addr) (W' : World) : Prop where
  size : W.heap.size ≤ W'.heap.size
  block : ∀ k, k < W.heap.size → Loc j a k → W'.heap[k]? = W.heap[k]?
  loc : ∀ k, k < W.heap.size → Loc j a k → Loc j a' k
  os : W'.os = W.os
  tape : W'.tape = W.tape
  output : W'.output = W.output
theorem Fr.refl (j : Jx) (a : Option Addr) (W : World) : Fr j a W a W := ⟨Nat.le_refl _, fun _ _ _ => rfl, fun _ _ h => h, rfl, rfl, rfl⟩
theorem Fr.trans {j : Jx} {a a' a'' : Option Addr} {W W' W'' : World} (h : Fr j a W a' W') (k : Fr j a' W' a'' W'') : Fr j a W a'' W'' :=
  ⟨Nat.le_trans h.size k.size, fun i h1 h2 => (k.block i (Nat.lt_of_lt_of_le h1 h.size) (h.loc i h1 h2)).trans (h.block i h1 h2), fun i h1 h2 => k.loc i (Nat.lt_of_lt_of_le h1 h.size) (h.loc i h1 h2), k.os.trans h.os, k.tape.trans h.tape, k.output.trans h.output⟩
theorem Fr.below {j : Jx} (a : Option Addr) {W W' : World} (k : Below W.heap.size W W') : Fr j a W a W' := ⟨k.size, fun i h1 _ => k.block i h1, fun _ _ h => h, k.os, k.tape, k.output⟩
theorem Fr.cl {j : Jx} {a a' : Option Addr} {W W' : World} (h : Fr j a W a' W') {b : Nat} {l : List Value} {t : TypeId} (hc : Cl b l t W) (hl : Loc j a b) : Cl b l t W' := (h.block b hc.lt hl).trans hc
theorem JS.row_lt {j : Jx} {xs : List Int} {a : Option Addr} {c : Nat} {W : World} (h : JS j xs a c W) : ∀ ad, a = some ad → j.B ≤ ad.block ∧ ad.block < W.heap.size := fun ad e => h.row.lt ad.block (by rw [e]; rfl)
theorem JS.loc {j : Jx} {xs : List Int} {a : Option Addr} {c : Nat} {W : World} (h : JS j xs a c W) {k : Nat} (hk : W.heap.size ≤ k) : Loc j a k :=
  ⟨by have := h.lt; omega, fun ad e => by have := h.row_lt ad e; omega⟩
theorem JS.below {j : Jx} {xs : List Int} {a : Option Addr} {c : Nat} {W W' : World} (h : JS j xs a c W) (k : Below W.heap.size W W') : JS j xs a c W' :=
  ⟨h.F.below k, h.C.below k, h.L.below k, row_kept h.row (fun g e => k.block g (h.row.lt g e).2), fun i v hv => (k.cell (p := ⟨j.gf, i, none⟩) (by have := h.lt; show j.gf < _; omega)).trans (h.fam i v hv), h.c1.below k, h.c2.below k,
    by have := h.lt; have := k.size; omega, h.ne⟩

theorem JS.own_ne {j : Jx} {xs : List Int} {a : Option Addr} {c : Nat} {W : World} (h : JS j xs a c W) {k : Nat} (hk : k < j.B) (n : Nat) : (Value.slice a n c).ownBlock ≠ some k := by
  cases a with
  | none => simp [Value.ownBlock]
  | some ad =>
    intro e
    simp only [Value.ownBlock, Option.some.injEq] at e
    have := h.row_lt ad rfl
    omega
/-- One number more in the list. -/
theorem JS.more {j : Jx} {xs : List Int} {a : Option Addr} {c : Nat} {W W1 : World} (h : JS j xs a c W) {g' cap' : Nat} {r : Int} (hg : W.grownBy W1 (Value.slice a xs.length c).ownBlock)
    (ho : W1.ownsRow j.B 3 1 (.slice (some ⟨g', 0, none⟩) (xs.length + 1) cap') (xs.length + 1) (ints xs ++ [.int .i64 r])) :
    JS j (xs ++ [r]) (some ⟨g', 0, none⟩) cap' (W1.setCell ⟨j.bL, 0, none⟩ (.slice (some ⟨g', 0, none⟩) (xs.length + 1) cap')) := by
  obtain ⟨z1, z2, z3, z4, z5, z6, z7, z8⟩ := h.lt
  obtain ⟨n1, n2, n3, n4, n5⟩ := h.ne
  refine ⟨(h.F.grown hg (h.own_ne z1 _)).other n1 _, (h.C.grown hg (h.own_ne z3 _)).other n2 _, ?_, ?_, ?_, (h.c1.grown hg (h.own_ne z5 _)).other n4 _, (h.c2.grown hg (h.own_ne z6 _)).other n5 _, ?_, h.ne⟩
  · have := (h.L.grown hg (h.own_ne z2 _)).set 0 (.slice (some ⟨g', 0, none⟩) (xs.length + 1) cap')
    rw [List.length_append]
    exact this
  · have := ownsRow_setCell_below ho (a := ⟨j.bL, 0, none⟩) z2 (.slice (some ⟨g', 0, none⟩) (xs.length + 1) cap')
    rw [List.length_append, show ints (xs ++ [r]) = ints xs ++ [.int .i64 r] by simp [ints]]
    exact this
  · intro k v hv
    have hlt : j.gf < W.heap.size := by omega
    rw [World.cell?_of_block (Below.heap_setCell W1 ⟨j.bL, 0, none⟩ _ j.gf n3), World.cell?_of_block (hg.block j.gf hlt (fun e => h.own_ne z4 _ e.symm))]
    exact h.fam k v hv
  · have := hg.size
    simp [World.setCell]
    omega

/-- What a choice from some place on adds to the list. -/
def Ch (N : Nat) (j : Jx) (place rest mod : Int) (out : List Int) : Prop :=
  ∀ (W : World) (xs : List Int) (a : Option Addr) (c : Nat), JS j xs a c W → xs.length ≤ N →
    Calls Tryz.prog 76 #[.int .i64 place, .int .i64 rest, .int .i64 mod, .pointer (some ⟨j.bF, 0, none⟩), .pointer (some ⟨j.bL, 0, none⟩), .pointer (some ⟨j.bC, 0, none⟩)] W
      fun e W' => (∃ v, e = .returned v) ∧ ∃ a' c', JS j (xs ++ out) a' c' W' ∧ Fr j a W a' W'

theorem cells_at (l : List Value) (t : TypeId) (w : World) (k : Nat) (hk : k = w.heap.size) : ∀ j u, l[j]? = some u → (w.alloc (.cells l.toArray t)).cell? ((⟨k, 0, none⟩ : Addr).add j) = some u := by
  subst hk; exact cells_new l t w

set_option maxHeartbeats 1000000 in
theorem ch_two (j : Jx) (rest mod : Int) : Ch 10 j 1 rest mod [rest] := by
  intro W xs a c HJ hx
  obtain ⟨i0, hi, hz0, hz1, hz2⟩ := info_parts Tryz.infoInt
  have HI : Hid (Tryz.prog.info? 3 = some i0 ∧ i0.zero = some (.int .i64 0) ∧ i0.size = 1 ∧ i0.bytes = 8) := ⟨hi, hz0, hz1, hz2⟩
  clear hi hz0 hz1 hz2
  have hJ : Hid (JS j xs a c W) := HJ
  have f0 : ∀ x y z : Obj, (((W.alloc x).alloc y).alloc z).cell? ⟨j.bF, 0, none⟩ = some (.slice (some ⟨j.gf, 0, none⟩) 1 j.cf) := fun x y z => (((HJ.F.alloc x).alloc y).alloc z).cell 0
  have l0 : ∀ x y z : Obj, (((W.alloc x).alloc y).alloc z).cell? ⟨j.bL, 0, none⟩ = some (.slice a xs.length c) := fun x y z => (((HJ.L.alloc x).alloc y).alloc z).cell 0
  have zF := HJ.F.lt
  have zL := HJ.L.lt
  have zB := HJ.lt
  have hJ3 : Hid (∀ x y z u : Obj, JS j xs a c ((((W.alloc x).alloc y).alloc z).alloc u)) := fun x y z u => HJ.below (((((Below.refl _ _).alloc (Nat.le_refl _) x).alloc (by simp) y).alloc (by simp; omega) z).alloc (by simp; omega) u)
  clear HJ
  go_enter Tryz.func76, Tryz.ntmps76
  go_wp2_with (at_builtin; refine wpList_append_own_at _ rfl _ _ 34 rfl j.B 3 i0 (.int .i64 0) 1 8 Tryz.underlying34 HI.out.1 HI.out.2.1 HI.out.2.2.1 HI.out.2.2.2 rfl (by decide) (.slice a xs.length c) xs.length (ints xs) rfl (hJ3.out _ _ _ _).row ⟨W.heap.size + 1 + 1 + 1, 0, none⟩ 1 1 [.int .i64 rest] rfl rfl (cells_at [.int .i64 rest] 3 _ _ (by simp)) (by simp [Value.oneCell']) (by simp only [maxLen]; omega) (by omega) (by simp; omega) ?_; intro v' w1 hown' hgrow _ hob; obtain ⟨g', cap', rfl⟩ := ownsRow_succ hown'; have q0 : w1.cell? ⟨j.bL, 0, none⟩ = some (.slice a xs.length c) := ((hJ3.out _ _ _ _).L.grown hgrow ((hJ3.out (.cells #[] 0) (.cells #[] 0) (.cells #[] 0) (.cells #[] 0)).own_ne zB.2.1 _)).cell 0; have q1 : w1.frozen? ⟨j.bL, 0, none⟩ = false := ((hJ3.out _ _ _ _).L.grown hgrow ((hJ3.out (.cells #[] 0) (.cells #[] 0) (.cells #[] 0) (.cells #[] 0)).own_ne zB.2.1 _)).frozen 0)
  have HR : Hid (JS j (xs ++ [rest]) (some ⟨g', 0, none⟩) cap' (w1.setCell ⟨j.bL, 0, none⟩ (.slice (some ⟨g', 0, none⟩) (xs.length + 1) cap')) ∧ Fr j a W (some ⟨g', 0, none⟩) (w1.setCell ⟨j.bL, 0, none⟩ (.slice (some ⟨g', 0, none⟩) (xs.length + 1) cap'))) := by
    refine ⟨(hJ3.out _ _ _ _).more hgrow hown', ?_, ?_, ?_, hgrow.os, hgrow.tape, hgrow.output⟩
    · have := hgrow.size
      simp [World.setCell] at this ⊢
      omega
    · intro k hk hl
      refine (Below.heap_setCell w1 ⟨j.bL, 0, none⟩ _ k hl.1).trans ((hgrow.block k (by simp; omega) ?_).trans ?_)
      · intro e
        cases a with
        | none => simp [Value.ownBlock] at e
        | some ad => simp only [Value.ownBlock, Option.some.injEq] at e; exact hl.2 ad rfl e
      · exact ((((Below.refl W.heap.size W).alloc (Nat.le_refl _) _).alloc (by simp) _).alloc (by simp; omega) _ |>.alloc (by simp; omega) _).block k hk
    · intro k hk hl
      refine ⟨hl.1, ?_⟩
      intro ad e
      cases e
      show k ≠ g'
      rintro rfl
      rcases hob with h | h
      · cases a with
        | none => simp [Value.ownBlock] at h
        | some ad => simp only [Value.ownBlock, Option.some.injEq] at h; exact hl.2 ad rfl h
      · simp [Value.ownBlock] at h; omega
  clear hown' hgrow hob q0 q1
  exact bodyPost_ret (results_none rfl _ _ _) rfl ⟨⟨_, rfl⟩, _, _, HR.out⟩

end Go.Proofs.YtoionlnbodfhlacGreatDoor.R5
