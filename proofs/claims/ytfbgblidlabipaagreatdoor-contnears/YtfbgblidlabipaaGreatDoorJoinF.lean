import Derived.Test.YtfbgblidlabipaaGreatDoorJoinE
section
/- slices.Collect of an iterator over numbers. -/
set_option linter.unusedSimpArgs false
set_option linter.unusedVariables false
set_option maxRecDepth 100000
namespace Go.Proofs.YtfbgblidlabipaaGreatDoor
open Go.RowKit
attribute [local go_sem] Oper.semAt_some

/-- The list's box and its row. -/
structure AS (h : Nat) (w : World) (pre : List Int) (o : Option Nat) (W : World) : Prop where
  l : ∃ a c, Cl h [.slice a pre.length c] 80 W ∧ W.ownsRow (h + 3) 3 1 (.slice a pre.length c) pre.length (ints pre) ∧ ∀ g, (Value.slice a pre.length c).ownBlock = some g → o ≠ some g
  b : Below h w W
  o : ow (h + 1) o W

theorem AS.step {h : Nat} {w : World} {pre : List Int} {o o' : Option Nat} {W W' : World} (s : AS h w pre o W) (hg : W.grownBy W' o) (ho : o' = o ∨ ∃ g, o' = some g ∧ W.heap.size ≤ g) : AS h w pre o' W' := by
  obtain ⟨a, c, h1, h2, h3⟩ := s.l
  refine ⟨⟨a, c, h1.grown hg (s.o.ne (by omega)), row_kept h2 (fun g e => hg.block g (h2.lt g e).2 (fun e2 => h3 g e e2.symm)), ?_⟩, s.b.grown hg (by have := s.o.1; omega) (fun k e => by have := s.o.2 k e; omega), s.o.step hg ho⟩
  intro g e
  rcases ho with h4 | ⟨g2, h4, h5⟩
  · rw [h4]; exact h3 g e
  · rw [h4]; intro e2; cases e2; have := (h2.lt g e).2; omega
theorem AS.put {h : Nat} {w : World} {pre : List Int} {o : Option Nat} {W : World} (s : AS h w pre o W) (ob : Obj) (k : Nat) (hk : k = h + 1 ∨ k = h + 2) : AS h w pre o (W.putObj k ob) := by
  obtain ⟨a, c, h1, h2, h3⟩ := s.l
  exact ⟨⟨a, c, h1.put ob (by omega), row_kept h2 (fun g e => World.putObj_heap_other (by have := (h2.lt g e).1; omega)), h3⟩, s.b.grown (grownBy_putObj' W _ ob) (by have := s.o.1; omega) (fun k e => by cases e; omega), s.o.put ob⟩
theorem ints_app1 (l : List Int) (x : Int) : ints (l ++ [x]) = ints l ++ [.int .i64 x] := by simp [ints]

set_option maxHeartbeats 8000000 in
theorem AppendSeq_any (gf : Nat) (lb : Array Value) (C : World → Prop) (xs : List Int) (hx : xs.length ≤ 100000) (w : World) (hseq : ∀ n, 2 ≤ n → YieldsE Fence.wide n Tryz.prog gf lb (fun x : Int => #[.int .i64 x]) C xs true)
    (eg : ∀ args w, (callFunc gf args).run Tryz.prog w = .ok (.enter gf args) w) (hC : ∀ W, Below w.heap.size w W → C W) :
    Calls Tryz.prog 268 #[.slice none 0 0, .func (.func gf) #[] lb] w fun e w' => ∃ a c, e = .returned (.slice a xs.length c) ∧ w'.ownsRow w.heap.size 3 1 (.slice a xs.length c) xs.length (ints xs) ∧ Below w.heap.size w w' := by
  obtain ⟨i0, hi, hz0, hz1, hz2⟩ := info_parts Tryz.infoInt
  have HI : Hid (Tryz.prog.info? 3 = some i0 ∧ i0.zero = some (.int .i64 0) ∧ i0.size = 1 ∧ i0.bytes = 8) := ⟨hi, hz0, hz1, hz2⟩
  have HS : Hid (∀ n, 2 ≤ n → YieldsE Fence.wide n Tryz.prog gf lb (fun x : Int => #[.int .i64 x]) C xs true) := hseq
  have HC : Hid (∀ W, Below w.heap.size w W → C W) := hC
  have HE : Hid (∀ args w, (callFunc gf args).run Tryz.prog w = .ok (.enter gf args) w) := eg
  clear hi hz0 hz1 hz2 hseq hC eg
  refine (callsIn_wide (n := 6)).1 ?_
  refine callsIn_of_wp_marks Tryz.func268 rfl trivial ?_ rfl
  simp only [Tryz.ntmps268, List.size_toArray, List.length_cons, List.length_nil, Nat.reduceAdd, Nat.reduceSub, Array.replicate_succ, Array.replicate_zero, List.push_toArray, List.append_toArray, List.nil_append, List.cons_append]
  gi_wp2
  obtain ⟨w1, hw1⟩ : ∃ w1, w1 = w.alloc (.cells #[.slice none 0 0] 80) := ⟨_, rfl⟩
  rw [← hw1]
  have z1 : w1.heap.size = w.heap.size + 1 := by rw [hw1, World.size_alloc]
  have C0 : AS w.heap.size w [] none w1 := by
    refine ⟨⟨none, 0, ?_, World.ownsRow_nil _ _ _ _, fun g e => by simp⟩, ?_, ⟨by omega, fun g e => by cases e⟩⟩
    · rw [hw1]; exact Cl.new [.slice none 0 0] 80 w
    · rw [hw1]; exact (Below.refl _ _).alloc (Nat.le_refl _) _
  clear hw1
  refine wpIn_rangeE (F := Fence.wide) (n := 6) rfl (by decide) (gf := gf) (lb := lb) rfl trivial HE.out (HS.out _ (by decide)) (fun _ => rfl)
    (fun o pre W => AS w.heap.size w pre o W)
    (fun c o pre W => False)
    ?ab ?abp ?abx (fun o s W h => HC.out W h.b) C0
    (fun x => { tmps := #[.slice none 0 0, .func (.func gf) #[] lb, .pointer (some ⟨w.heap.size, 0, none⟩), undef, .slice none 0 0, .int .i64 x, .func (.func gf) #[] lb, .int .i64 x, undef, undef, undef, undef, undef], defers := [] }) ?assign ?body ?hend ?done ?stop
  case ab => exact fun o s A B o' h hg ho => h.step hg ho
  case abp => exact fun o s A ob h => h.put ob _ (by omega)
  case abx => exact fun c o s A ob h => h
  case assign =>
    intro l x W K hK
    gi_wp2
    exact hK
  case hend => intro hf; cases hf
  case body =>
    rintro l o pre x W hst hog hpre hz
    obtain ⟨n, hn⟩ : ∃ n, n = pre.length := ⟨_, rfl⟩
    have hn1 : n ≤ 100000 := by have := hpre.length_le; simp at this; omega
    obtain ⟨a, c, h1, h2, h3⟩ := hst.l
    rw [← hn] at h1 h2 h3
    have q1 := h1.cell 0
    have q2 := h1.frozen 0
    simp at q1
    have HST : Hid (AS w.heap.size w pre o W) := hst
    have HV : Hid (Cl w.heap.size [.slice a n c] 80 W) := h1
    have HROW : Hid (W.ownsRow (w.heap.size + 3) 3 1 (.slice a n c) n (ints pre)) := h2
    have HNO : Hid (∀ g, (Value.slice a n c).ownBlock = some g → o ≠ some g) := h3
    have HOG : Hid (∀ g, o = some g → w1.heap.size + 2 ≤ g ∧ g < W.heap.size) := hog
    have HNn : Hid (n = pre.length) := hn
    clear h1 h2 h3 hst hn hog hpre
    gi_wp2_with (gi_at_builtin; refine wpListIn_append_own_at _ rfl _ _ 80 rfl (w.heap.size + 3) 3 i0 (.int .i64 0) 1 8 Tryz.underlying80 HI.out.1 HI.out.2.1 HI.out.2.2.1 HI.out.2.2.2 rfl (by decide) (.slice a n c) n (ints pre) rfl (HROW.out.alloc _) ⟨W.heap.size, 0, none⟩ 1 1 [.int .i64 x] rfl rfl (cell_one_new _ _ _) (by simp [Value.oneCell']) (by simp only [maxLen]; omega) (by omega) (by simp; omega) ?_; intro v' w2 hown' hgrow _ hob; obtain ⟨g', cap', rfl⟩ := ownsRow_succ hown'; have hnb : ∀ b, b < w.heap.size + 3 → (Value.slice a n c).ownBlock ≠ some b := fun b hb e => by { have := (HROW.out.lt b e).1; omega }; have A1 : Cl w.heap.size [.slice a n c] 80 w2 := (HV.out.alloc _).grown hgrow (hnb _ (by omega)); have r1 := A1.cell 0; have r2 := A1.frozen 0; simp at r1)
    have NK : ¬ keptE w1.heap.size o w.heap.size := by
      rintro (e | e | e)
      · omega
      · omega
      · have := (HOG.out _ e).1; omega
    have hzW := HST.out.o.1
    have hA2 := A1.set 0 (.slice (some ⟨g', 0, none⟩) (n + 1) cap')
    refine ⟨?_, ?_⟩
    · refine (((KP.refl _ W).alloc _).grown hgrow (fun g e h => ?_)).setCell NK _
      have h5 := (HROW.out.lt g e).1
      rcases h with h | h | h
      · omega
      · omega
      · exact HNO.out g e h
    · have hlen : (pre ++ [x]).length = n + 1 := by rw [HNn.out]; simp
      refine ⟨⟨some ⟨g', 0, none⟩, cap', ?_, ?_, ?_⟩, ?_, ?_⟩
      · rw [hlen]; exact hA2
      · rw [hlen, ints_app1]
        exact ownsRow_setCell_below hown' (by show w.heap.size < _; omega) _
      · rw [hlen]
        intro g e e2
        have e3 : (Value.slice (some ⟨g', 0, none⟩) (n + 1) cap').ownBlock = some g := e
        rcases hob with h | h
        · exact HNO.out g (h ▸ e3) e2
        · rw [h] at e3
          have h5 := (HOG.out g e2).2
          simp at e3
          omega
      · exact ((HST.out.b.alloc (by omega) _).grown hgrow (by simp; omega) (fun k e => by have := (HROW.out.lt k e).1; omega)).setCell (by simp) _
      · refine HST.out.o.size ?_
        have := hgrow.size
        simp [World.setCell] at this ⊢
        omega
  case done =>
    rintro hf o W hst hK
    obtain ⟨a, c, h1, h2, h3⟩ := hst.l
    have q1 := h1.cell 0
    simp at q1
    have HST : Hid (AS w.heap.size w xs o W) := hst
    have HROW : Hid (W.ownsRow (w.heap.size + 3) 3 1 (.slice a xs.length c) xs.length (ints xs)) := h2
    have HK : Hid (W.heap[w.heap.size + 1]? = some (.deferred (some []))) := by rw [z1] at hK; exact hK
    clear h1 h2 h3 hst hK
    gi_wp2
    refine ⟨by simp, .inl ⟨_, _, rfl, run_takeDeferred HK.out, ?_⟩⟩
    refine ⟨.slice a xs.length c, by simp [results, Tryz.results268, go_sem], a, c, rfl, ?_, HST.out.b.grown (grownBy_putObj' _ _ _) HST.out.b.size (fun k e => by cases e; omega)⟩
    exact ownsRow_lower (B := w.heap.size + 3) (row_kept HROW.out (fun g e => World.putObj_heap_other (by have := (HROW.out.lt g e).1; omega))) (by omega)
  case stop =>
    rintro c o pre W hf
    exact hf.elim

set_option maxHeartbeats 1000000 in
theorem Collect_any (gf : Nat) (lb : Array Value) (C : World → Prop) (xs : List Int) (hx : xs.length ≤ 100000) (w : World) (hseq : ∀ n, 2 ≤ n → YieldsE Fence.wide n Tryz.prog gf lb (fun x : Int => #[.int .i64 x]) C xs true)
    (eg : ∀ args w, (callFunc gf args).run Tryz.prog w = .ok (.enter gf args) w) (hC : ∀ W, Below w.heap.size w W → C W) :
    Calls Tryz.prog 238 #[.func (.func gf) #[] lb] w fun e w' => ∃ a c, e = .returned (.slice a xs.length c) ∧ w'.ownsRow w.heap.size 3 1 (.slice a xs.length c) xs.length (ints xs) ∧ Below w.heap.size w w' := by
  have HA : Hid (Calls Tryz.prog 268 #[.slice none 0 0, .func (.func gf) #[] lb] w fun e w' => ∃ a c, e = .returned (.slice a xs.length c) ∧ w'.ownsRow w.heap.size 3 1 (.slice a xs.length c) xs.length (ints xs) ∧ Below w.heap.size w w') := AppendSeq_any gf lb C xs hx w hseq eg hC
  clear hseq eg hC
  go_enter Tryz.func238, Tryz.ntmps238
  go_wp2_with fail
  refine HA.out.mono ?_
  rintro e w1 ⟨a, c, rfl, h1, k1⟩
  go_wp2
  go_ret
  exact ⟨a, c, rfl, h1, k1⟩

end Go.Proofs.YtfbgblidlabipaaGreatDoor
end

section
/- The program: cont.Expand. -/
set_option linter.unusedSimpArgs false
set_option linter.unusedVariables false
set_option maxRecDepth 100000
namespace Go.Proofs.YtfbgblidlabipaaGreatDoor
open Go.RowKit
/-- What Expand answers of a and b, where b isn't 0. -/
def ExIs (a b : Int) (xs : List Int) : Prop := ∃ (A B : Int) (N : Nat), CnQ.En A B N ∧ xs = CnQ.ek A B N ∧ N ≤ 120 ∧ A * b = a * B ∧ A.natAbs ≤ 1000000000000000000 ∧ B.natAbs ≤ 1000000000000000000

theorem en_of (A B : Int) (h0 : 0 < B) (hb : B ≤ 1000000000000000000) : ∃ N, N ≤ 120 ∧ CnQ.En A B N := by
  obtain ⟨N, h1, h2⟩ := CnQ.half 60 A B h0 (by omega)
  exact ⟨N, by omega, h2⟩

end Go.Proofs.YtfbgblidlabipaaGreatDoor
end

section
/- Plain: what a list's ends come to. -/
set_option linter.unusedSimpArgs false
set_option linter.unusedVariables false
set_option maxRecDepth 100000
namespace Go.Proofs.YtfbgblidlabipaaGreatDoor.CnT
open CnQ

/-- All but the first are above 0. -/
def Tl (l : List Int) : Prop := ∀ i, 0 < i → i < l.length → 1 ≤ l.getD i 0

theorem drop_cons {l : List Int} {i : Nat} (h : i < l.length) : l.drop i = l.getD i 0 :: l.drop (i + 1) := by
  rw [List.drop_eq_getElem_cons h, List.getD_eq_getElem?_getD, List.getElem?_eq_getElem h, Option.getD_some]
theorem cf_step {l : List Int} {i : Nat} (h : i < l.length) : cf (l.drop i) = (l.getD i 0 * (cf (l.drop (i + 1))).1 + (cf (l.drop (i + 1))).2, (cf (l.drop (i + 1))).1) := by
  rw [drop_cons h, cf]
/-- Above 0, and growing. -/
theorem cf_tail {l : List Int} (h : Tl l) : ∀ k i, i + k = l.length → 0 < i → 1 ≤ (cf (l.drop i)).1 ∧ 0 ≤ (cf (l.drop i)).2 ∧ (cf (l.drop i)).2 ≤ (cf (l.drop i)).1 := by
  intro k
  induction k with
  | zero => intro i hi h0; rw [List.drop_of_length_le (by omega)]; simp [cf]
  | succ k ih =>
    intro i hi h0
    obtain ⟨a1, a2, a3⟩ := ih (i + 1) (by omega) (by omega)
    rw [cf_step (by omega)]
    have := h i h0 (by omega)
    have := Int.mul_le_mul_of_nonneg_right this (show 0 ≤ (cf (l.drop (i + 1))).1 by omega)
    refine ⟨?_, ?_, ?_⟩ <;> simp only <;> omega
theorem cf_mono {l : List Int} (h : Tl l) : ∀ k i, 0 < i → i + k ≤ l.length → (cf (l.drop (i + k))).1 ≤ (cf (l.drop i)).1 := by
  intro k
  induction k with
  | zero => intro i _ _; exact Int.le_refl _
  | succ k ih =>
    intro i h0 hi
    have a := ih (i + 1) (by omega) (by omega)
    obtain ⟨a1, a2, a3⟩ := cf_tail h (l.length - i) i (by omega) h0
    rw [cf_step (show i < l.length by omega)] at a3 ⊢
    simp only at a3 ⊢
    rw [show i + (k + 1) = i + 1 + k by omega]
    omega
theorem cf_all {l : List Int} (h : Tl l) (h0 : 0 < l.length) {M : Int} (hM : 1 ≤ M) :
    (∀ i, i < l.length → -M ≤ (cf (l.drop i)).1 ∧ (cf (l.drop i)).1 ≤ M) ↔ (-M ≤ (cf l).1 ∧ (cf l).1 ≤ M ∧ -M ≤ (cf l).2 ∧ (cf l).2 ≤ M) := by
  have e2 : (cf l).2 = (cf (l.drop 1)).1 := by
    have := cf_step h0
    rw [List.drop_zero] at this
    rw [this]
  constructor
  · intro a
    have a0 := a 0 h0
    rw [List.drop_zero] at a0
    refine ⟨a0.1, a0.2, ?_⟩
    rw [e2]
    by_cases c : 1 < l.length
    · exact a 1 c
    · rw [List.drop_of_length_le (by omega)]; simp [cf]; omega
  · rintro ⟨b1, b2, b3, b4⟩ i hi
    rcases Nat.eq_zero_or_pos i with e | e
    · subst e; rw [List.drop_zero]; exact ⟨b1, b2⟩
    · have m := cf_mono h (i - 1) 1 (by omega) (by omega)
      rw [show 1 + (i - 1) = i by omega, ← e2] at m
      have p := cf_tail h (l.length - i) i (by omega) e
      omega
theorem cf_lt {l : List Int} (h : Tl l) (h0 : 0 < l.length) : 1 ≤ (cf l).2 := by
  have e2 : (cf l).2 = (cf (l.drop 1)).1 := by
    have := cf_step h0
    rw [List.drop_zero] at this
    rw [this]
  rw [e2]
  exact (cf_tail h (l.length - 1) 1 (by omega) (by omega)).1

end Go.Proofs.YtfbgblidlabipaaGreatDoor.CnT
end

section
/- The program: cont.sumWithin, upAhead, slices.Backward. -/
set_option linter.unusedSimpArgs false
set_option linter.unusedVariables false
set_option maxRecDepth 100000
namespace Go.Proofs.YtfbgblidlabipaaGreatDoor
open Go.RowKit

theorem div_le_iff {t n X : Int} (hn : 1 ≤ n) : t ≤ X / n ↔ t * n ≤ X := Int.le_ediv_iff_mul_le (by omega)

end Go.Proofs.YtfbgblidlabipaaGreatDoor
end

section
/- The program: slices.Backward and its iterator, over numbers. -/
set_option linter.unusedSimpArgs false
set_option linter.unusedVariables false
set_option maxRecDepth 100000
namespace Go.Proofs.YtfbgblidlabipaaGreatDoor
open Go.RowKit
/-- A row of numbers that a slice shows. -/
def Rw (b o : Nat) (l : List Int) (W : World) : Prop := b < W.heap.size ∧ ∀ j, j < l.length → W.cell? ⟨b, o + j, none⟩ = some (.int .i64 (l.getD j 0))
theorem Rw.below {b o : Nat} {l : List Int} {w W : World} (h : Rw b o l w) (k : Below w.heap.size w W) : Rw b o l W :=
  ⟨Nat.lt_of_lt_of_le h.1 k.size, fun j hj => (k.cell (p := ⟨b, o + j, none⟩) h.1).trans (h.2 j hj)⟩

theorem callsIn_rnd {n l : Nat} {P : Program} {f : FuncId} {args : Array Value} {w : World} {R : Ending → World → Prop} (h : Calls P f args w R) : CallsIn (Fence.wide.inRound l) n P f args w R :=
  (callsIn_wide (n := n)).2 h
theorem range_pre {m n : Nat} (h : m ≤ n) : List.range m <+: List.range n := by
  obtain ⟨k, rfl⟩ := Nat.exists_eq_add_of_le h
  rw [List.range_add (n := m) (m := k)]; exact List.prefix_append _ _
theorem range_prefix {n : Nat} {pre : List Nat} {x : Nat} (h : pre ++ [x] <+: List.range n) : pre = List.range pre.length ∧ x = pre.length ∧ pre.length < n := by
  have hl := h.length_le
  simp at hl
  have h1 : pre ++ [x] = List.range (pre.length + 1) := by
    exact List.IsPrefix.eq_of_length (List.prefix_of_prefix_length_le h (range_pre (by omega)) (by simp)) (by simp)
  rw [List.range_succ] at h1
  have h2 := List.append_inj' h1 rfl
  exact ⟨h2.1, by simpa using h2.2, by omega⟩

end Go.Proofs.YtfbgblidlabipaaGreatDoor
end
