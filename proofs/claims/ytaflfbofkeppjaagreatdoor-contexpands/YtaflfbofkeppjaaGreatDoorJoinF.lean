import Derived.Test.YtaflfbofkeppjaaGreatDoorJoinE
section
/- slices.Collect of an iterator over numbers. -/
set_option linter.unusedSimpArgs false
set_option linter.unusedVariables false
set_option maxRecDepth 100000
namespace Go.Proofs.YtaflfbofkeppjaaGreatDoor
open Go.RowKit
attribute [local go_sem] Oper.semAt_some

/-- The list's box and its row. -/
structure AS (h : Nat) (w : World) (pre : List Int) (o : Option Nat) (W : World) : Prop where
  l : ∃ a c, Cl h [.slice a pre.length c] 22 W ∧ W.ownsRow (h + 3) 3 1 (.slice a pre.length c) pre.length (ints pre) ∧ ∀ g, (Value.slice a pre.length c).ownBlock = some g → o ≠ some g
  b : Below h w W
  o : ow (h + 1) o W

theorem AS.step {h : Nat} {w : World} {pre : List Int} {o o' : Option Nat} {W W' : World} (s : AS h w pre o W) (hg : W.grownBy W' o) (ho : o' = o ∨ ∃ g, o' = some g ∧ W.heap.size ≤ g) : AS h w pre o' W' := by
  obtain ⟨a, c, h1, h2, h3⟩ := s.l
  refine ⟨⟨a, c, h1.grown hg (s.o.ne (by omega)), row_kept h2 (fun g e => hg.block g (h2.lt g e).2 (fun e2 => h3 g e e2.symm)), ?_⟩, s.b.grown hg (by have := s.o.1; omega) (fun k e => by have := s.o.2 k e; omega), s.o.step hg ho⟩
  intro g e
  rcases ho with h4 | ⟨g2, h4, h5⟩
  · rw [h4]; exact h3 g e
  · rw [h4]; intro e2; cases e2; have := (h2.lt g e).2; omega
theorem AS.put {h : Nat} {w : World} {pre : List Int} {o : Option Nat} {W : World} (s : AS h w pre o W) (ob : Obj) (k : Nat) (hk : k = h + 1 ∨ k = h + 2) : AS h w pre o (W.putObj k ob) := by
  obtain ⟨a, c, h1, h2, h3⟩ := s.l
  exact ⟨⟨a, c, h1.put ob (by omega), row_kept h2 (fun g e => World.putObj_heap_other (by have := (h2.lt g e).1; omega)), h3⟩, s.b.grown (grownBy_putObj' W _ ob) (by have := s.o.1; omega) (fun k e => by cases e; omega), s.o.put ob⟩
theorem ints_app1 (l : List Int) (x : Int) : ints (l ++ [x]) = ints l ++ [.int .i64 x] := by simp [ints]

set_option maxHeartbeats 8000000 in
theorem AppendSeq_any (gf : Nat) (lb : Array Value) (C : World → Prop) (xs : List Int) (hx : xs.length ≤ 100000) (w : World) (hseq : ∀ n, 2 ≤ n → YieldsE Fence.wide n Tryz.prog gf lb (fun x : Int => #[.int .i64 x]) C xs true)
    (eg : ∀ args w, (callFunc gf args).run Tryz.prog w = .ok (.enter gf args) w) (hC : ∀ W, Below w.heap.size w W → C W) :
    Calls Tryz.prog 108 #[.slice none 0 0, .func (.func gf) #[] lb] w fun e w' => ∃ a c, e = .returned (.slice a xs.length c) ∧ w'.ownsRow w.heap.size 3 1 (.slice a xs.length c) xs.length (ints xs) ∧ Below w.heap.size w w' := by
  obtain ⟨i0, hi, hz0, hz1, hz2⟩ := info_parts Tryz.infoInt
  have HI : Hid (Tryz.prog.info? 3 = some i0 ∧ i0.zero = some (.int .i64 0) ∧ i0.size = 1 ∧ i0.bytes = 8) := ⟨hi, hz0, hz1, hz2⟩
  have HS : Hid (∀ n, 2 ≤ n → YieldsE Fence.wide n Tryz.prog gf lb (fun x : Int => #[.int .i64 x]) C xs true) := hseq
  have HC : Hid (∀ W, Below w.heap.size w W → C W) := hC
  have HE : Hid (∀ args w, (callFunc gf args).run Tryz.prog w = .ok (.enter gf args) w) := eg
  clear hi hz0 hz1 hz2 hseq hC eg
  refine (callsIn_wide (n := 6)).1 ?_
  refine callsIn_of_wp_marks Tryz.func108 rfl trivial ?_ rfl
  simp only [Tryz.ntmps108, List.size_toArray, List.length_cons, List.length_nil, Nat.reduceAdd, Nat.reduceSub, Array.replicate_succ, Array.replicate_zero, List.push_toArray, List.append_toArray, List.nil_append, List.cons_append]
  gi_wp2
  obtain ⟨w1, hw1⟩ : ∃ w1, w1 = w.alloc (.cells #[.slice none 0 0] 22) := ⟨_, rfl⟩
  rw [← hw1]
  have z1 : w1.heap.size = w.heap.size + 1 := by rw [hw1, World.size_alloc]
  have C0 : AS w.heap.size w [] none w1 := by
    refine ⟨⟨none, 0, ?_, World.ownsRow_nil _ _ _ _, fun g e => by simp⟩, ?_, ⟨by omega, fun g e => by cases e⟩⟩
    · rw [hw1]; exact Cl.new [.slice none 0 0] 22 w
    · rw [hw1]; exact (Below.refl _ _).alloc (Nat.le_refl _) _
  clear hw1
  refine wpIn_rangeE (F := Fence.wide) (n := 6) rfl (by decide) (gf := gf) (lb := lb) rfl trivial HE.out (HS.out _ (by decide)) (fun _ => rfl)
    (fun o pre W => AS w.heap.size w pre o W)
    (fun c o pre W => False)
    ?ab ?abp ?abx (fun o s W h => HC.out W h.b) C0
    (fun x => { tmps := #[.slice none 0 0, .func (.func gf) #[] lb, .pointer (some ⟨w.heap.size, 0, none⟩), undef, .slice none 0 0, .int .i64 x, .func (.func gf) #[] lb, .int .i64 x, undef, undef, undef, undef, undef], defers := [] }) ?assign ?body ?hend ?done ?stop
  case ab => exact fun o s A B o' h hg ho => h.step hg ho
  case abp => exact fun o s A ob h => h.put ob _ (by omega)
  case abx => exact fun c o s A ob h => h
  case assign =>
    intro l x W K hK
    gi_wp2
    exact hK
  case hend => intro hf; cases hf
  case body =>
    rintro l o pre x W hst hog hpre hz
    obtain ⟨n, hn⟩ : ∃ n, n = pre.length := ⟨_, rfl⟩
    have hn1 : n ≤ 100000 := by have := hpre.length_le; simp at this; omega
    obtain ⟨a, c, h1, h2, h3⟩ := hst.l
    rw [← hn] at h1 h2 h3
    have q1 := h1.cell 0
    have q2 := h1.frozen 0
    simp at q1
    have HST : Hid (AS w.heap.size w pre o W) := hst
    have HV : Hid (Cl w.heap.size [.slice a n c] 22 W) := h1
    have HROW : Hid (W.ownsRow (w.heap.size + 3) 3 1 (.slice a n c) n (ints pre)) := h2
    have HNO : Hid (∀ g, (Value.slice a n c).ownBlock = some g → o ≠ some g) := h3
    have HOG : Hid (∀ g, o = some g → w1.heap.size + 2 ≤ g ∧ g < W.heap.size) := hog
    have HNn : Hid (n = pre.length) := hn
    clear h1 h2 h3 hst hn hog hpre
    gi_wp2_with (gi_at_builtin; refine wpListIn_append_own_at _ rfl _ _ 22 rfl (w.heap.size + 3) 3 i0 (.int .i64 0) 1 8 Tryz.underlying22 HI.out.1 HI.out.2.1 HI.out.2.2.1 HI.out.2.2.2 rfl (by decide) (.slice a n c) n (ints pre) rfl (HROW.out.alloc _) ⟨W.heap.size, 0, none⟩ 1 1 [.int .i64 x] rfl rfl (cell_one_new _ _ _) (by simp [Value.oneCell']) (by simp only [maxLen]; omega) (by omega) (by simp; omega) ?_; intro v' w2 hown' hgrow _ hob; obtain ⟨g', cap', rfl⟩ := ownsRow_succ hown'; have hnb : ∀ b, b < w.heap.size + 3 → (Value.slice a n c).ownBlock ≠ some b := fun b hb e => by { have := (HROW.out.lt b e).1; omega }; have A1 : Cl w.heap.size [.slice a n c] 22 w2 := (HV.out.alloc _).grown hgrow (hnb _ (by omega)); have r1 := A1.cell 0; have r2 := A1.frozen 0; simp at r1)
    have NK : ¬ keptE w1.heap.size o w.heap.size := by
      rintro (e | e | e)
      · omega
      · omega
      · have := (HOG.out _ e).1; omega
    have hzW := HST.out.o.1
    have hA2 := A1.set 0 (.slice (some ⟨g', 0, none⟩) (n + 1) cap')
    refine ⟨?_, ?_⟩
    · refine (((KP.refl _ W).alloc _).grown hgrow (fun g e h => ?_)).setCell NK _
      have h5 := (HROW.out.lt g e).1
      rcases h with h | h | h
      · omega
      · omega
      · exact HNO.out g e h
    · have hlen : (pre ++ [x]).length = n + 1 := by rw [HNn.out]; simp
      refine ⟨⟨some ⟨g', 0, none⟩, cap', ?_, ?_, ?_⟩, ?_, ?_⟩
      · rw [hlen]; exact hA2
      · rw [hlen, ints_app1]
        exact ownsRow_setCell_below hown' (by show w.heap.size < _; omega) _
      · rw [hlen]
        intro g e e2
        have e3 : (Value.slice (some ⟨g', 0, none⟩) (n + 1) cap').ownBlock = some g := e
        rcases hob with h | h
        · exact HNO.out g (h ▸ e3) e2
        · rw [h] at e3
          have h5 := (HOG.out g e2).2
          simp at e3
          omega
      · exact ((HST.out.b.alloc (by omega) _).grown hgrow (by simp; omega) (fun k e => by have := (HROW.out.lt k e).1; omega)).setCell (by simp) _
      · refine HST.out.o.size ?_
        have := hgrow.size
        simp [World.setCell] at this ⊢
        omega
  case done =>
    rintro hf o W hst hK
    obtain ⟨a, c, h1, h2, h3⟩ := hst.l
    have q1 := h1.cell 0
    simp at q1
    have HST : Hid (AS w.heap.size w xs o W) := hst
    have HROW : Hid (W.ownsRow (w.heap.size + 3) 3 1 (.slice a xs.length c) xs.length (ints xs)) := h2
    have HK : Hid (W.heap[w.heap.size + 1]? = some (.deferred (some []))) := by rw [z1] at hK; exact hK
    clear h1 h2 h3 hst hK
    gi_wp2
    refine ⟨by simp, .inl ⟨_, _, rfl, run_takeDeferred HK.out, ?_⟩⟩
    refine ⟨.slice a xs.length c, by simp [results, Tryz.results108, go_sem], a, c, rfl, ?_, HST.out.b.grown (grownBy_putObj' _ _ _) HST.out.b.size (fun k e => by cases e; omega)⟩
    exact ownsRow_lower (B := w.heap.size + 3) (row_kept HROW.out (fun g e => World.putObj_heap_other (by have := (HROW.out.lt g e).1; omega))) (by omega)
  case stop =>
    rintro c o pre W hf
    exact hf.elim

set_option maxHeartbeats 1000000 in
theorem Collect_any (gf : Nat) (lb : Array Value) (C : World → Prop) (xs : List Int) (hx : xs.length ≤ 100000) (w : World) (hseq : ∀ n, 2 ≤ n → YieldsE Fence.wide n Tryz.prog gf lb (fun x : Int => #[.int .i64 x]) C xs true)
    (eg : ∀ args w, (callFunc gf args).run Tryz.prog w = .ok (.enter gf args) w) (hC : ∀ W, Below w.heap.size w W → C W) :
    Calls Tryz.prog 55 #[.func (.func gf) #[] lb] w fun e w' => ∃ a c, e = .returned (.slice a xs.length c) ∧ w'.ownsRow w.heap.size 3 1 (.slice a xs.length c) xs.length (ints xs) ∧ Below w.heap.size w w' := by
  have HA : Hid (Calls Tryz.prog 108 #[.slice none 0 0, .func (.func gf) #[] lb] w fun e w' => ∃ a c, e = .returned (.slice a xs.length c) ∧ w'.ownsRow w.heap.size 3 1 (.slice a xs.length c) xs.length (ints xs) ∧ Below w.heap.size w w') := AppendSeq_any gf lb C xs hx w hseq eg hC
  clear hseq eg hC
  go_enter Tryz.func55, Tryz.ntmps55
  go_wp2_with fail
  refine HA.out.mono ?_
  rintro e w1 ⟨a, c, rfl, h1, k1⟩
  go_wp2
  go_ret
  exact ⟨a, c, rfl, h1, k1⟩

end Go.Proofs.YtaflfbofkeppjaaGreatDoor
end

section
/- The program: cont.Expand. -/
set_option linter.unusedSimpArgs false
set_option linter.unusedVariables false
set_option maxRecDepth 100000
namespace Go.Proofs.YtaflfbofkeppjaaGreatDoor
open Go.RowKit

set_option maxHeartbeats 400000 in
theorem Expand_bad (a b : Int) (w : World) (h : okB a b = false) :
    Calls Tryz.prog 9 #[.int .i64 a, .int .i64 b] w fun e w' => e = .returned (.tuple #[.slice none 0 0, .agg #[.int .i64 (nf 0 [a, b]).1, .int .i64 (nf 0 [a, b]).2]]) ∧ Below w.heap.size w w' := by
  have hne : ((nf 0 [a, b]).1 != 0) = true := by
    unfold okB at h; unfold nf nf nf; cases h1 : numB a <;> cases h2 : numB b <;> simp_all
  obtain ⟨c, d, hcd⟩ : ∃ c d, nf 0 [a, b] = (c, d) := ⟨_, _, rfl⟩
  rw [hcd] at hne ⊢
  have HCD : Hid (nf 0 [a, b] = (c, d)) := hcd
  clear hcd h
  simp only at hne ⊢
  go_enter Tryz.func9, Tryz.ntmps9
  go_wp2_with fail
  refine (numbersFault_any [a, b] _ 0 _ _ (by simp) ?_ ?_).mono ?_
  · simp
  · exact two_cells a b _ _ (by simp) (by simp)
  rw [HCD.out]
  rintro e w1 ⟨rfl, hb⟩
  have hz : w.heap.size < w1.heap.size := by have := hb.size; simp at this; omega
  have q0 : w1.cell? ⟨w.heap.size, 0, none⟩ = some (.int .i64 0) := cell_later hb (by simp)
  have q1 : w1.cell? ⟨w.heap.size, 1, none⟩ = some (.int .i64 0) := cell_later hb (by simp)
  have q2 : w1.frozen? ⟨w.heap.size, 0, none⟩ = false := (hb.frozen (p := ⟨w.heap.size, 0, none⟩) (by simp; omega)).trans (by simp)
  have q3 : w1.frozen? ⟨w.heap.size, 1, none⟩ = false := (hb.frozen (p := ⟨w.heap.size, 1, none⟩) (by simp; omega)).trans (by simp)
  go_wp2
  go_region
  all_goals
    go_wp2
    refine bodyPost_ret (v := .tuple #[.slice none 0 0, .agg #[.int .i64 c, .int .i64 d]]) (by simp [results, Tryz.results9, go_sem, q0, q1, hz]) rfl ⟨rfl, ?_⟩
    refine Below.drew (Below.alloc (Below.setCell (Below.setCell (Below.trans (Below.alloc (Below.alloc (Below.refl _ _) ?_ _) ?_ _) (hb.mono ?_)) ?_ _) ?_ _) ?_ _) <;> first | omega | (simp; done) | (simp; omega)

set_option maxHeartbeats 400000 in
theorem Expand_zero (a : Int) (w : World) (h : okB a 0 = true) :
    Calls Tryz.prog 9 #[.int .i64 a, .int .i64 0] w fun e w' => e = .returned (.tuple #[.slice none 0 0, .agg #[.int .i64 4, .int .i64 1]]) ∧ Below w.heap.size w w' := by
  have hcd := okB_nf h
  have HCD : Hid (nf 0 [a, 0] = (0, 0)) := hcd
  clear hcd h
  go_enter Tryz.func9, Tryz.ntmps9
  go_wp2_with fail
  refine (numbersFault_any [a, 0] _ 0 _ _ (by simp) ?_ ?_).mono ?_
  · simp
  · exact two_cells a 0 _ _ (by simp) (by simp)
  rw [HCD.out]
  rintro e w1 ⟨rfl, hb⟩
  have hz : w.heap.size < w1.heap.size := by have := hb.size; simp at this; omega
  have q0 : w1.cell? ⟨w.heap.size, 0, none⟩ = some (.int .i64 0) := cell_later hb (by simp)
  have q1 : w1.cell? ⟨w.heap.size, 1, none⟩ = some (.int .i64 0) := cell_later hb (by simp)
  have q2 : w1.frozen? ⟨w.heap.size, 0, none⟩ = false := (hb.frozen (p := ⟨w.heap.size, 0, none⟩) (by simp; omega)).trans (by simp)
  have q3 : w1.frozen? ⟨w.heap.size, 1, none⟩ = false := (hb.frozen (p := ⟨w.heap.size, 1, none⟩) (by simp; omega)).trans (by simp)
  go_wp2
  refine bodyPost_ret (v := .tuple #[.slice none 0 0, .agg #[.int .i64 4, .int .i64 1]]) (by simp [results, Tryz.results9, go_sem, q0, q1, hz]) rfl ⟨rfl, ?_⟩
  refine Below.alloc (Below.setCell (Below.setCell (Below.trans (Below.alloc (Below.alloc (Below.refl _ _) ?_ _) ?_ _) (hb.mono ?_)) ?_ _) ?_ _) ?_ _ <;> first | omega | (simp; done) | (simp; omega)

/-- What Expand answers of a and b, where b isn't 0. -/
def ExIs (a b : Int) (xs : List Int) : Prop := ∃ (A B : Int) (N : Nat), CnQ.En A B N ∧ xs = CnQ.ek A B N ∧ N ≤ 120 ∧ A * b = a * B ∧ A.natAbs ≤ 1000000000000000000 ∧ B.natAbs ≤ 1000000000000000000

theorem en_of (A B : Int) (h0 : 0 < B) (hb : B ≤ 1000000000000000000) : ∃ N, N ≤ 120 ∧ CnQ.En A B N := by
  obtain ⟨N, h1, h2⟩ := CnQ.half 60 A B h0 (by omega)
  exact ⟨N, by omega, h2⟩

set_option maxHeartbeats 2000000 in
theorem Expand_pos (a b : Int) (w : World) (h : okB a b = true) (hb0 : 0 < b) :
    Calls Tryz.prog 9 #[.int .i64 a, .int .i64 b] w fun e w' => ∃ xs p c, e = .returned (.tuple #[.slice p xs.length c, .agg #[.int .i64 0, .int .i64 0]]) ∧ ExIs a b xs ∧ w'.ownsRow w.heap.size 3 1 (.slice p xs.length c) xs.length (ints xs) ∧ Below w.heap.size w w' := by
  obtain ⟨ha, hb'⟩ := okB_bounds h
  have hcd := okB_nf h
  have HCD : Hid (nf 0 [a, b] = (0, 0)) := hcd
  obtain ⟨N, hN, hE⟩ := en_of (a) (b) (by omega) (by omega)
  have HEx : Hid (ExIs a b (CnQ.ek (a) (b) N)) := ⟨a, b, N, hE, rfl, hN, by grind, by omega, by omega⟩
  have hbz : (b == 0) = false := beq_eq_false_iff_ne.2 (by omega)
  have HQ : Hid (∀ w, Calls Tryz.prog 56 #[.int .i64 (a), .int .i64 (b)] w fun e w' => e = .returned (.func (.func 109) #[] #[.pointer (some ⟨w.heap.size, 0, none⟩), .pointer (some ⟨w.heap.size + 1, 0, none⟩)]) ∧ w' = (w.alloc (.cells #[.int .i64 (a)] 3)).alloc (.cells #[.int .i64 (b)] 3)) := fun w => quotients_any _ _ w
  have HCl : Hid (∀ (w W : World), W = (w.alloc (.cells #[.int .i64 (a)] 3)).alloc (.cells #[.int .i64 (b)] 3) → Calls Tryz.prog 55 #[.func (.func 109) #[] #[.pointer (some ⟨w.heap.size, 0, none⟩), .pointer (some ⟨w.heap.size + 1, 0, none⟩)]] W fun e w' => ∃ p c, e = .returned (.slice p N c) ∧ w'.ownsRow W.heap.size 3 1 (.slice p N c) N (ints (CnQ.ek (a) (b) N)) ∧ Below W.heap.size W w') := fun w W hW => by
    have c1 : Cl w.heap.size [.int .i64 (a)] 3 W := by rw [hW]; exact (Cl.new [.int .i64 (a)] 3 w).alloc _
    have c2 : Cl (w.heap.size + 1) [.int .i64 (b)] 3 W := by
      rw [hW]
      have := Cl.new [.int .i64 (b)] 3 (w.alloc (.cells #[.int .i64 (a)] 3))
      rw [World.size_alloc] at this; exact this
    have := Collect_any 109 #[.pointer (some ⟨w.heap.size, 0, none⟩), .pointer (some ⟨w.heap.size + 1, 0, none⟩)] _ (CnQ.ek (a) (b) N) (by rw [CnQ.ek_len]; omega) W (fun n hn => quotients_yields (a) (b) N w.heap.size (w.heap.size + 1) hE (by omega) (by omega) n hn) (enters_of Tryz.func109 (by kernel_rfl) rfl) (fun X k => ⟨c1.below k, c2.below k⟩)
    rw [CnQ.ek_len] at this
    exact this
  clear hcd h hE
  go_enter Tryz.func9, Tryz.ntmps9
  go_wp2_with fail
  refine (numbersFault_any [a, b] _ 0 _ _ (by simp) ?_ ?_).mono ?_
  · simp
  · exact two_cells a b _ _ (by simp) (by simp)
  rw [HCD.out]
  rintro e w1 ⟨rfl, hb⟩
  have hz : w.heap.size < w1.heap.size := by have := hb.size; simp at this; omega
  have q0 : w1.cell? ⟨w.heap.size, 0, none⟩ = some (.int .i64 0) := cell_later hb (by simp)
  have q1 : w1.cell? ⟨w.heap.size, 1, none⟩ = some (.int .i64 0) := cell_later hb (by simp)
  have q2 : w1.frozen? ⟨w.heap.size, 0, none⟩ = false := (hb.frozen (p := ⟨w.heap.size, 0, none⟩) (by simp; omega)).trans (by simp)
  have q3 : w1.frozen? ⟨w.heap.size, 1, none⟩ = false := (hb.frozen (p := ⟨w.heap.size, 1, none⟩) (by simp; omega)).trans (by simp)
  have HB1 : Hid (Below w.heap.size w w1) := Below.trans (Below.alloc (Below.alloc (Below.refl _ _) (Nat.le_refl _) _) (by simp) _) (hb.mono (by simp; omega))
  clear hb
  go_wp2_with fail
  obtain ⟨w2, hw2⟩ : ∃ w2, w2 = w1.alloc (.cells #[.int .i64 0, .int .i64 0] 24) := ⟨_, rfl⟩
  rw [← hw2]
  have HB2 : Hid (Below w.heap.size w w2) := by rw [hw2]; exact HB1.out.alloc (by omega) _
  have r0 : w2.cell? ⟨w.heap.size, 0, none⟩ = some (.int .i64 0) := by rw [hw2, cell_old_at _ _ _ hz]; exact q0
  have r1 : w2.cell? ⟨w.heap.size, 1, none⟩ = some (.int .i64 0) := by rw [hw2, cell_old_at _ _ _ hz]; exact q1
  have r2 : w2.frozen? ⟨w.heap.size, 0, none⟩ = false := by rw [hw2, frozen_old_at _ _ _ hz]; exact q2
  have r3 : w2.frozen? ⟨w.heap.size, 1, none⟩ = false := by rw [hw2, frozen_old_at _ _ _ hz]; exact q3
  have hz2 : w.heap.size < w2.heap.size := by rw [hw2, World.size_alloc]; omega
  clear q0 q1 q2 q3 hw2 HB1
  refine (HQ.out w2).mono ?_
  rintro e w3 ⟨rfl, hw3⟩
  have HW3 : Hid (w3 = (w2.alloc (.cells #[.int .i64 (a)] 3)).alloc (.cells #[.int .i64 (b)] 3)) := hw3
  clear hw3
  go_wp2_with fail
  refine (HCl.out w2 w3 HW3.out).mono ?_
  rintro e w4 ⟨p, c, rfl, h4, k4⟩
  have hw3 := HW3.out
  have K3 : Below w2.heap.size w2 w3 := by rw [hw3]; exact ((Below.refl _ _).alloc (Nat.le_refl _) _).alloc (by simp) _
  have K4 : Below w2.heap.size w2 w4 := K3.trans (k4.mono K3.size)
  have HB4 : Hid (Below w.heap.size w w4) := HB2.out.trans (K4.mono (by omega))
  have s0 : w4.cell? ⟨w.heap.size, 0, none⟩ = some (.int .i64 0) := (K4.cell (p := ⟨w.heap.size, 0, none⟩) hz2).trans r0
  have s1 : w4.cell? ⟨w.heap.size, 1, none⟩ = some (.int .i64 0) := (K4.cell (p := ⟨w.heap.size, 1, none⟩) hz2).trans r1
  have s2 : w4.frozen? ⟨w.heap.size, 0, none⟩ = false := (K4.frozen (p := ⟨w.heap.size, 0, none⟩) hz2).trans r2
  have s3 : w4.frozen? ⟨w.heap.size, 1, none⟩ = false := (K4.frozen (p := ⟨w.heap.size, 1, none⟩) hz2).trans r3
  have HR : Hid (w4.ownsRow w3.heap.size 3 1 (.slice p N c) N (ints (CnQ.ek (a) (b) N))) := h4
  have hz3 := K3.size
  have hz4 := K4.size
  have HZ : Hid (w.heap.size < w3.heap.size) := by show _ < _; omega
  have hz5 : w.heap.size < w4.heap.size := by omega
  clear r0 r1 r2 r3 hw3 h4 k4 K3 K4 hz2 hz3 hz4 hz
  go_wp2
  refine bodyPost_ret (v := .tuple #[.slice p N c, .agg #[.int .i64 0, .int .i64 0]]) (by simp [results, Tryz.results9, go_sem, s0, s1, hz5]) rfl ⟨CnQ.ek (a) (b) N, p, c, ?_, HEx.out, ?_, ?_⟩
  · rw [CnQ.ek_len]
  · rw [CnQ.ek_len]
    exact ownsRow_lower (ownsRow_setCell_below (ownsRow_setCell_below HR.out HZ.out _) HZ.out _) (Nat.le_of_lt HZ.out)
  · exact (HB4.out.setCell (Nat.le_refl _) _).setCell (Nat.le_refl _) _
set_option maxHeartbeats 2000000 in
theorem Expand_neg (a b : Int) (w : World) (h : okB a b = true) (hb0 : b < 0) :
    Calls Tryz.prog 9 #[.int .i64 a, .int .i64 b] w fun e w' => ∃ xs p c, e = .returned (.tuple #[.slice p xs.length c, .agg #[.int .i64 0, .int .i64 0]]) ∧ ExIs a b xs ∧ w'.ownsRow w.heap.size 3 1 (.slice p xs.length c) xs.length (ints xs) ∧ Below w.heap.size w w' := by
  obtain ⟨ha, hb'⟩ := okB_bounds h
  have hcd := okB_nf h
  have HCD : Hid (nf 0 [a, b] = (0, 0)) := hcd
  obtain ⟨N, hN, hE⟩ := en_of (-a) (-b) (by omega) (by omega)
  have HEx : Hid (ExIs a b (CnQ.ek (-a) (-b) N)) := ⟨-a, -b, N, hE, rfl, hN, by grind, by omega, by omega⟩
  have hbz : (b == 0) = false := beq_eq_false_iff_ne.2 (by omega)
  have HQ : Hid (∀ w, Calls Tryz.prog 56 #[.int .i64 (-a), .int .i64 (-b)] w fun e w' => e = .returned (.func (.func 109) #[] #[.pointer (some ⟨w.heap.size, 0, none⟩), .pointer (some ⟨w.heap.size + 1, 0, none⟩)]) ∧ w' = (w.alloc (.cells #[.int .i64 (-a)] 3)).alloc (.cells #[.int .i64 (-b)] 3)) := fun w => quotients_any _ _ w
  have HCl : Hid (∀ (w W : World), W = (w.alloc (.cells #[.int .i64 (-a)] 3)).alloc (.cells #[.int .i64 (-b)] 3) → Calls Tryz.prog 55 #[.func (.func 109) #[] #[.pointer (some ⟨w.heap.size, 0, none⟩), .pointer (some ⟨w.heap.size + 1, 0, none⟩)]] W fun e w' => ∃ p c, e = .returned (.slice p N c) ∧ w'.ownsRow W.heap.size 3 1 (.slice p N c) N (ints (CnQ.ek (-a) (-b) N)) ∧ Below W.heap.size W w') := fun w W hW => by
    have c1 : Cl w.heap.size [.int .i64 (-a)] 3 W := by rw [hW]; exact (Cl.new [.int .i64 (-a)] 3 w).alloc _
    have c2 : Cl (w.heap.size + 1) [.int .i64 (-b)] 3 W := by
      rw [hW]
      have := Cl.new [.int .i64 (-b)] 3 (w.alloc (.cells #[.int .i64 (-a)] 3))
      rw [World.size_alloc] at this; exact this
    have := Collect_any 109 #[.pointer (some ⟨w.heap.size, 0, none⟩), .pointer (some ⟨w.heap.size + 1, 0, none⟩)] _ (CnQ.ek (-a) (-b) N) (by rw [CnQ.ek_len]; omega) W (fun n hn => quotients_yields (-a) (-b) N w.heap.size (w.heap.size + 1) hE (by omega) (by omega) n hn) (enters_of Tryz.func109 (by kernel_rfl) rfl) (fun X k => ⟨c1.below k, c2.below k⟩)
    rw [CnQ.ek_len] at this
    exact this
  clear hcd h hE
  go_enter Tryz.func9, Tryz.ntmps9
  go_wp2_with fail
  refine (numbersFault_any [a, b] _ 0 _ _ (by simp) ?_ ?_).mono ?_
  · simp
  · exact two_cells a b _ _ (by simp) (by simp)
  rw [HCD.out]
  rintro e w1 ⟨rfl, hb⟩
  have hz : w.heap.size < w1.heap.size := by have := hb.size; simp at this; omega
  have q0 : w1.cell? ⟨w.heap.size, 0, none⟩ = some (.int .i64 0) := cell_later hb (by simp)
  have q1 : w1.cell? ⟨w.heap.size, 1, none⟩ = some (.int .i64 0) := cell_later hb (by simp)
  have q2 : w1.frozen? ⟨w.heap.size, 0, none⟩ = false := (hb.frozen (p := ⟨w.heap.size, 0, none⟩) (by simp; omega)).trans (by simp)
  have q3 : w1.frozen? ⟨w.heap.size, 1, none⟩ = false := (hb.frozen (p := ⟨w.heap.size, 1, none⟩) (by simp; omega)).trans (by simp)
  have HB1 : Hid (Below w.heap.size w w1) := Below.trans (Below.alloc (Below.alloc (Below.refl _ _) (Nat.le_refl _) _) (by simp) _) (hb.mono (by simp; omega))
  clear hb
  go_wp2_with fail
  obtain ⟨w2, hw2⟩ : ∃ w2, w2 = w1.alloc (.cells #[.int .i64 0, .int .i64 0] 24) := ⟨_, rfl⟩
  rw [← hw2]
  have HB2 : Hid (Below w.heap.size w w2) := by rw [hw2]; exact HB1.out.alloc (by omega) _
  have r0 : w2.cell? ⟨w.heap.size, 0, none⟩ = some (.int .i64 0) := by rw [hw2, cell_old_at _ _ _ hz]; exact q0
  have r1 : w2.cell? ⟨w.heap.size, 1, none⟩ = some (.int .i64 0) := by rw [hw2, cell_old_at _ _ _ hz]; exact q1
  have r2 : w2.frozen? ⟨w.heap.size, 0, none⟩ = false := by rw [hw2, frozen_old_at _ _ _ hz]; exact q2
  have r3 : w2.frozen? ⟨w.heap.size, 1, none⟩ = false := by rw [hw2, frozen_old_at _ _ _ hz]; exact q3
  have hz2 : w.heap.size < w2.heap.size := by rw [hw2, World.size_alloc]; omega
  clear q0 q1 q2 q3 hw2 HB1
  refine (HQ.out w2).mono ?_
  rintro e w3 ⟨rfl, hw3⟩
  have HW3 : Hid (w3 = (w2.alloc (.cells #[.int .i64 (-a)] 3)).alloc (.cells #[.int .i64 (-b)] 3)) := hw3
  clear hw3
  go_wp2_with fail
  refine (HCl.out w2 w3 HW3.out).mono ?_
  rintro e w4 ⟨p, c, rfl, h4, k4⟩
  have hw3 := HW3.out
  have K3 : Below w2.heap.size w2 w3 := by rw [hw3]; exact ((Below.refl _ _).alloc (Nat.le_refl _) _).alloc (by simp) _
  have K4 : Below w2.heap.size w2 w4 := K3.trans (k4.mono K3.size)
  have HB4 : Hid (Below w.heap.size w w4) := HB2.out.trans (K4.mono (by omega))
  have s0 : w4.cell? ⟨w.heap.size, 0, none⟩ = some (.int .i64 0) := (K4.cell (p := ⟨w.heap.size, 0, none⟩) hz2).trans r0
  have s1 : w4.cell? ⟨w.heap.size, 1, none⟩ = some (.int .i64 0) := (K4.cell (p := ⟨w.heap.size, 1, none⟩) hz2).trans r1
  have s2 : w4.frozen? ⟨w.heap.size, 0, none⟩ = false := (K4.frozen (p := ⟨w.heap.size, 0, none⟩) hz2).trans r2
  have s3 : w4.frozen? ⟨w.heap.size, 1, none⟩ = false := (K4.frozen (p := ⟨w.heap.size, 1, none⟩) hz2).trans r3
  have HR : Hid (w4.ownsRow w3.heap.size 3 1 (.slice p N c) N (ints (CnQ.ek (-a) (-b) N))) := h4
  have hz3 := K3.size
  have hz4 := K4.size
  have HZ : Hid (w.heap.size < w3.heap.size) := by show _ < _; omega
  have hz5 : w.heap.size < w4.heap.size := by omega
  clear r0 r1 r2 r3 hw3 h4 k4 K3 K4 hz2 hz3 hz4 hz
  go_wp2
  refine bodyPost_ret (v := .tuple #[.slice p N c, .agg #[.int .i64 0, .int .i64 0]]) (by simp [results, Tryz.results9, go_sem, s0, s1, hz5]) rfl ⟨CnQ.ek (-a) (-b) N, p, c, ?_, HEx.out, ?_, ?_⟩
  · rw [CnQ.ek_len]
  · rw [CnQ.ek_len]
    exact ownsRow_lower (ownsRow_setCell_below (ownsRow_setCell_below HR.out HZ.out _) HZ.out _) (Nat.le_of_lt HZ.out)
  · exact (HB4.out.setCell (Nat.le_refl _) _).setCell (Nat.le_refl _) _

end Go.Proofs.YtaflfbofkeppjaaGreatDoor
end

section
/- Plain: what a list's ends come to. -/
set_option linter.unusedSimpArgs false
set_option linter.unusedVariables false
set_option maxRecDepth 100000
namespace Go.Proofs.YtaflfbofkeppjaaGreatDoor.CnT
open CnQ

/-- All but the first are above 0. -/
def Tl (l : List Int) : Prop := ∀ i, 0 < i → i < l.length → 1 ≤ l.getD i 0

theorem drop_cons {l : List Int} {i : Nat} (h : i < l.length) : l.drop i = l.getD i 0 :: l.drop (i + 1) := by
  rw [List.drop_eq_getElem_cons h, List.getD_eq_getElem?_getD, List.getElem?_eq_getElem h, Option.getD_some]
theorem cf_step {l : List Int} {i : Nat} (h : i < l.length) : cf (l.drop i) = (l.getD i 0 * (cf (l.drop (i + 1))).1 + (cf (l.drop (i + 1))).2, (cf (l.drop (i + 1))).1) := by
  rw [drop_cons h, cf]
/-- Above 0, and growing. -/
theorem cf_tail {l : List Int} (h : Tl l) : ∀ k i, i + k = l.length → 0 < i → 1 ≤ (cf (l.drop i)).1 ∧ 0 ≤ (cf (l.drop i)).2 ∧ (cf (l.drop i)).2 ≤ (cf (l.drop i)).1 := by
  intro k
  induction k with
  | zero => intro i hi h0; rw [List.drop_of_length_le (by omega)]; simp [cf]
  | succ k ih =>
    intro i hi h0
    obtain ⟨a1, a2, a3⟩ := ih (i + 1) (by omega) (by omega)
    rw [cf_step (by omega)]
    have := h i h0 (by omega)
    have := Int.mul_le_mul_of_nonneg_right this (show 0 ≤ (cf (l.drop (i + 1))).1 by omega)
    refine ⟨?_, ?_, ?_⟩ <;> simp only <;> omega
theorem cf_mono {l : List Int} (h : Tl l) : ∀ k i, 0 < i → i + k ≤ l.length → (cf (l.drop (i + k))).1 ≤ (cf (l.drop i)).1 := by
  intro k
  induction k with
  | zero => intro i _ _; exact Int.le_refl _
  | succ k ih =>
    intro i h0 hi
    have a := ih (i + 1) (by omega) (by omega)
    obtain ⟨a1, a2, a3⟩ := cf_tail h (l.length - i) i (by omega) h0
    rw [cf_step (show i < l.length by omega)] at a3 ⊢
    simp only at a3 ⊢
    rw [show i + (k + 1) = i + 1 + k by omega]
    omega
theorem cf_all {l : List Int} (h : Tl l) (h0 : 0 < l.length) {M : Int} (hM : 1 ≤ M) :
    (∀ i, i < l.length → -M ≤ (cf (l.drop i)).1 ∧ (cf (l.drop i)).1 ≤ M) ↔ (-M ≤ (cf l).1 ∧ (cf l).1 ≤ M ∧ -M ≤ (cf l).2 ∧ (cf l).2 ≤ M) := by
  have e2 : (cf l).2 = (cf (l.drop 1)).1 := by
    have := cf_step h0
    rw [List.drop_zero] at this
    rw [this]
  constructor
  · intro a
    have a0 := a 0 h0
    rw [List.drop_zero] at a0
    refine ⟨a0.1, a0.2, ?_⟩
    rw [e2]
    by_cases c : 1 < l.length
    · exact a 1 c
    · rw [List.drop_of_length_le (by omega)]; simp [cf]; omega
  · rintro ⟨b1, b2, b3, b4⟩ i hi
    rcases Nat.eq_zero_or_pos i with e | e
    · subst e; rw [List.drop_zero]; exact ⟨b1, b2⟩
    · have m := cf_mono h (i - 1) 1 (by omega) (by omega)
      rw [show 1 + (i - 1) = i by omega, ← e2] at m
      have p := cf_tail h (l.length - i) i (by omega) e
      omega
theorem cf_lt {l : List Int} (h : Tl l) (h0 : 0 < l.length) : 1 ≤ (cf l).2 := by
  have e2 : (cf l).2 = (cf (l.drop 1)).1 := by
    have := cf_step h0
    rw [List.drop_zero] at this
    rw [this]
  rw [e2]
  exact (cf_tail h (l.length - 1) 1 (by omega) (by omega)).1

end Go.Proofs.YtaflfbofkeppjaaGreatDoor.CnT
end

section
/- The program: cont.sumWithin, upAhead, slices.Backward. -/
set_option linter.unusedSimpArgs false
set_option linter.unusedVariables false
set_option maxRecDepth 100000
namespace Go.Proofs.YtaflfbofkeppjaaGreatDoor
open Go.RowKit

theorem div_le_iff {t n X : Int} (hn : 1 ≤ n) : t ≤ X / n ↔ t * n ≤ X := Int.le_ediv_iff_mul_le (by omega)

set_option maxHeartbeats 1000000 in
theorem sumWithin_any (t n m V : Int) (w : World) (ht : 0 ≤ t ∧ t ≤ 1000000000000000000) (hn : 1 ≤ n ∧ n ≤ 1000000000000000000) (hm : -1000000000000000000 ≤ m ∧ m ≤ 1000000000000000000) (hV : V = t * n + m) :
    Calls Tryz.prog 159 #[.int .i64 t, .int .i64 n, .int .i64 m] w fun e w' => (V ≤ 1000000000000000000 → e = .returned (.tuple #[.int .i64 V, .bool true])) ∧ (1000000000000000000 < V → e = .returned (.tuple #[.int .i64 0, .bool false])) ∧ w' = w := by
  obtain ⟨X, hX⟩ : ∃ X, X = 1000000000000000000 - m := ⟨_, rfl⟩
  obtain ⟨D, hD⟩ : ∃ D, D = X / n := ⟨_, rfl⟩
  have hX0 : 0 ≤ X := by omega
  have hD0 : 0 ≤ D := by rw [hD]; exact Int.ediv_nonneg hX0 (by omega)
  have hDX : D ≤ X := by rw [hD]; exact Int.ediv_le_self _ hX0
  have hiff : t ≤ D ↔ V ≤ 1000000000000000000 := by rw [hD, div_le_iff hn.1, hV, hX]; omega
  have hdt : X.tdiv n = D := by rw [hD]; exact Int.tdiv_eq_ediv_of_nonneg hX0
  have hde : X / n = D := hD.symm
  have hnz : (n == 0) = false := beq_eq_false_iff_ne.2 (by omega)
  have hXe : 1000000000000000000 - m = X := hX.symm
  have hXe2 : wrap64 (1000000000000000000 - m) = X := by rw [hXe]; exact w64_id (by omega) (by omega)
  have hDw : wrap64 D = D := w64_id (by omega) (by omega)
  by_cases hc : t ≤ D
  · have hv := hiff.1 hc
    have hcb : decide (D < t) = false := decide_eq_false (by omega)
    obtain ⟨T, hT⟩ : ∃ T, T = t * n := ⟨_, rfl⟩
    have hT0 : 0 ≤ T := by rw [hT]; exact Int.mul_nonneg ht.1 (by omega)
    have hTe : t * n = T := hT.symm
    rw [hTe] at hV
    have hTw : wrap64 T = T := w64_id (by omega) (by omega)
    have hVe : T + m = V := hV.symm
    have hVw : wrap64 V = V := w64_id (by omega) (by omega)
    have HV : Hid (V ≤ 1000000000000000000) := hv
    clear hiff hv hc hT hV hX hD
    go_enter Tryz.func159, Tryz.ntmps159
    go_wp2
    exact bodyPost_ret (v := .tuple #[.int .i64 V, .bool true]) (by simp [results, Tryz.results159, go_sem, hVw]) rfl ⟨fun _ => rfl, fun h => absurd HV.out (by omega), rfl⟩
  · have hv : ¬ V ≤ 1000000000000000000 := fun h => hc (hiff.2 h)
    have hcb : decide (D < t) = true := decide_eq_true (by omega)
    have HV : Hid (¬ V ≤ 1000000000000000000) := hv
    clear hiff hv hc hV hX hD
    go_enter Tryz.func159, Tryz.ntmps159
    go_wp2
    exact bodyPost_ret (v := .tuple #[.int .i64 0, .bool false]) (by simp [results, Tryz.results159, go_sem]) rfl ⟨fun h => absurd h (by have := HV.out; omega), fun _ => rfl, rfl⟩

set_option maxHeartbeats 2000000 in
theorem upAhead_any (x P Q V : Int) (w : World) (hx : -1000000000000000000 ≤ x ∧ x ≤ 1000000000000000000) (hP : 1 ≤ P ∧ P ≤ 1000000000000000000) (hQ : 0 ≤ Q ∧ Q ≤ P) (hV : V = x * P + Q) :
    Calls Tryz.prog 116 #[.int .i64 x, .agg #[.int .i64 P, .int .i64 Q]] w fun e w' => (-1000000000000000000 ≤ V ∧ V ≤ 1000000000000000000 → e = .returned (.tuple #[.int .i64 V, .bool true])) ∧ (¬ (-1000000000000000000 ≤ V ∧ V ≤ 1000000000000000000) → e = .returned (.tuple #[.int .i64 0, .bool false])) ∧ Below w.heap.size w w' := by
  by_cases h0 : x < 0
  · obtain ⟨U, hU⟩ : ∃ U, U = -x * P + -Q := ⟨_, rfl⟩
    have hUV : U = -V := by rw [hU, hV, Int.neg_mul]; omega
    have hU0 : 0 ≤ U := by
      have := Int.mul_le_mul_of_nonneg_right (show 1 ≤ -x by omega) (show 0 ≤ P by omega)
      omega
    have HS : Hid (∀ w, Calls Tryz.prog 159 #[.int .i64 (-x), .int .i64 P, .int .i64 (-Q)] w fun e w' => (U ≤ 1000000000000000000 → e = .returned (.tuple #[.int .i64 U, .bool true])) ∧ (1000000000000000000 < U → e = .returned (.tuple #[.int .i64 0, .bool false])) ∧ w' = w) := fun w => sumWithin_any (-x) P (-Q) U w (by omega) hP (by omega) hU
    have HUV : Hid (U = -V ∧ 0 ≤ U) := ⟨hUV, hU0⟩
    clear hU hV hUV hU0
    by_cases hc : U ≤ 1000000000000000000
    · have hcv : -1000000000000000000 ≤ V ∧ V ≤ 1000000000000000000 := by have := HUV.out; omega
      have HCV : Hid (-1000000000000000000 ≤ V ∧ V ≤ 1000000000000000000) := hcv
      have hNU : -U = V := by have := HUV.out; omega
      have HS2 : Hid (∀ w, Calls Tryz.prog 159 #[.int .i64 (-x), .int .i64 P, .int .i64 (-Q)] w fun e w' => e = .returned (.tuple #[.int .i64 U, .bool true]) ∧ w' = w) := fun w => (HS.out w).mono (fun e w' h => ⟨h.1 hc, h.2.2⟩)
      obtain ⟨v1, v2⟩ := hcv
      have hU0 := HUV.out.2
      clear HS
      go_enter Tryz.func116, Tryz.ntmps116
      go_wp2_with fail
      refine (HS2.out _).mono ?_
      rintro e w1 ⟨rfl, hw1⟩
      rw [hw1]
      clear hw1 w1
      go_wp2
      exact bodyPost_ret (v := .tuple #[.int .i64 V, .bool true]) (by simp [results, Tryz.results116, go_sem]) rfl ⟨fun _ => rfl, fun h => absurd HCV.out h, (Below.refl _ _).alloc (Nat.le_refl _) _⟩
    · have hcv : ¬ (-1000000000000000000 ≤ V ∧ V ≤ 1000000000000000000) := by have := HUV.out; omega
      have HCV : Hid (¬ (-1000000000000000000 ≤ V ∧ V ≤ 1000000000000000000)) := hcv
      have HS2 : Hid (∀ w, Calls Tryz.prog 159 #[.int .i64 (-x), .int .i64 P, .int .i64 (-Q)] w fun e w' => e = .returned (.tuple #[.int .i64 0, .bool false]) ∧ w' = w) := fun w => (HS.out w).mono (fun e w' h => ⟨h.2.1 (by omega), h.2.2⟩)
      clear HS hcv hc
      go_enter Tryz.func116, Tryz.ntmps116
      go_wp2_with fail
      refine (HS2.out _).mono ?_
      rintro e w1 ⟨rfl, hw1⟩
      rw [hw1]
      clear hw1 w1
      go_wp2
      exact bodyPost_ret (v := .tuple #[.int .i64 0, .bool false]) (by simp [results, Tryz.results116, go_sem]) rfl ⟨fun h => absurd h HCV.out, fun _ => rfl, (Below.refl _ _).alloc (Nat.le_refl _) _⟩
  · have hV0 : 0 ≤ V := by
      have := Int.mul_nonneg (show 0 ≤ x by omega) (show 0 ≤ P by omega)
      omega
    have HS : Hid (∀ w, Calls Tryz.prog 159 #[.int .i64 x, .int .i64 P, .int .i64 Q] w fun e w' => (V ≤ 1000000000000000000 → e = .returned (.tuple #[.int .i64 V, .bool true])) ∧ (1000000000000000000 < V → e = .returned (.tuple #[.int .i64 0, .bool false])) ∧ w' = w) := fun w => sumWithin_any x P Q V w (by omega) hP (by omega) hV
    have HV0 : Hid (0 ≤ V) := hV0
    clear hV hV0
    by_cases hc : V ≤ 1000000000000000000
    · have HS2 : Hid (∀ w, Calls Tryz.prog 159 #[.int .i64 x, .int .i64 P, .int .i64 Q] w fun e w' => e = .returned (.tuple #[.int .i64 V, .bool true]) ∧ w' = w) := fun w => (HS.out w).mono (fun e w' h => ⟨h.1 hc, h.2.2⟩)
      have HC : Hid (V ≤ 1000000000000000000) := hc
      clear HS hc
      go_enter Tryz.func116, Tryz.ntmps116
      go_wp2_with fail
      refine (HS2.out _).mono ?_
      rintro e w1 ⟨rfl, hw1⟩
      rw [hw1]
      clear hw1 w1
      go_wp2
      exact bodyPost_ret (v := .tuple #[.int .i64 V, .bool true]) (by simp [results, Tryz.results116, go_sem]) rfl ⟨fun _ => rfl, fun h => absurd ⟨by have := HV0.out; omega, HC.out⟩ h, (Below.refl _ _).alloc (Nat.le_refl _) _⟩
    · have HS2 : Hid (∀ w, Calls Tryz.prog 159 #[.int .i64 x, .int .i64 P, .int .i64 Q] w fun e w' => e = .returned (.tuple #[.int .i64 0, .bool false]) ∧ w' = w) := fun w => (HS.out w).mono (fun e w' h => ⟨h.2.1 (by omega), h.2.2⟩)
      have HC : Hid (¬ V ≤ 1000000000000000000) := hc
      clear HS hc
      go_enter Tryz.func116, Tryz.ntmps116
      go_wp2_with fail
      refine (HS2.out _).mono ?_
      rintro e w1 ⟨rfl, hw1⟩
      rw [hw1]
      clear hw1 w1
      go_wp2
      exact bodyPost_ret (v := .tuple #[.int .i64 0, .bool false]) (by simp [results, Tryz.results116, go_sem]) rfl ⟨fun h => absurd h.2 (by have := HC.out; omega), fun _ => rfl, (Below.refl _ _).alloc (Nat.le_refl _) _⟩

end Go.Proofs.YtaflfbofkeppjaaGreatDoor
end

section
/- The program: slices.Backward and its iterator, over numbers. -/
set_option linter.unusedSimpArgs false
set_option linter.unusedVariables false
set_option maxRecDepth 100000
namespace Go.Proofs.YtaflfbofkeppjaaGreatDoor
open Go.RowKit

set_option maxHeartbeats 1000000 in
theorem Backward_any (v : Value) (w : World) (hv : ∃ a n c, v = .slice a n c) :
    Calls Tryz.prog 115 #[v] w fun e w' => e = .returned (.func (.func 158) #[] #[.pointer (some ⟨w.heap.size, 0, none⟩)]) ∧ w' = w.alloc (.cells #[v] 22) := by
  obtain ⟨a, n, c, rfl⟩ := hv
  go_enter Tryz.func115, Tryz.ntmps115
  go_wp2
  go_ret
  exact ⟨rfl, rfl⟩

/-- A row of numbers that a slice shows. -/
def Rw (b o : Nat) (l : List Int) (W : World) : Prop := b < W.heap.size ∧ ∀ j, j < l.length → W.cell? ⟨b, o + j, none⟩ = some (.int .i64 (l.getD j 0))
theorem Rw.below {b o : Nat} {l : List Int} {w W : World} (h : Rw b o l w) (k : Below w.heap.size w W) : Rw b o l W :=
  ⟨Nat.lt_of_lt_of_le h.1 k.size, fun j hj => (k.cell (p := ⟨b, o + j, none⟩) h.1).trans (h.2 j hj)⟩

theorem callsIn_rnd {n l : Nat} {P : Program} {f : FuncId} {args : Array Value} {w : World} {R : Ending → World → Prop} (h : Calls P f args w R) : CallsIn (Fence.wide.inRound l) n P f args w R :=
  (callsIn_wide (n := n)).2 h
theorem range_pre {m n : Nat} (h : m ≤ n) : List.range m <+: List.range n := by
  obtain ⟨k, rfl⟩ := Nat.exists_eq_add_of_le h
  rw [List.range_add (n := m) (m := k)]; exact List.prefix_append _ _
theorem range_prefix {n : Nat} {pre : List Nat} {x : Nat} (h : pre ++ [x] <+: List.range n) : pre = List.range pre.length ∧ x = pre.length ∧ pre.length < n := by
  have hl := h.length_le
  simp at hl
  have h1 : pre ++ [x] = List.range (pre.length + 1) := by
    exact List.IsPrefix.eq_of_length (List.prefix_of_prefix_length_le h (range_pre (by omega)) (by simp)) (by simp)
  rw [List.range_succ] at h1
  have h2 := List.append_inj' h1 rfl
  exact ⟨h2.1, by simpa using h2.2, by omega⟩

set_option maxHeartbeats 4000000 in
theorem backward_yields (l : List Int) (b o cap bb : Nat) (hl : l.length ≤ 1000000) (n : Nat) (hn : 2 ≤ n) :
    YieldsE Fence.wide n Tryz.prog 158 #[.pointer (some ⟨bb, 0, none⟩)] (fun j : Nat => #[.int .i64 ((l.length : Int) - 1 - (j : Int)), .int .i64 (l.getD (l.length - 1 - j) 0)]) (fun W => Cl bb [.slice (some ⟨b, o, none⟩) l.length cap] 22 W ∧ Rw b o l W) (List.range l.length) true := by
  intro lp J Jx W hJ hC hY hend h0
  obtain ⟨L, hL⟩ : ∃ L, L = l.length := ⟨_, rfl⟩
  have HY : Hid (∀ (o : Option Nat) (pre : List Nat) (x : Nat) (W1 : World), J o pre W1 → (∀ g, o = some g → W.heap.size ≤ g ∧ g < W1.heap.size) → W.heap.size ≤ W1.heap.size → pre ++ [x] <+: List.range L → YieldAt Fence.wide (n - 1) Tryz.prog lp #[.int .i64 ((L : Int) - 1 - (x : Int)), .int .i64 (l.getD (L - 1 - x) 0)] W1 fun e W' =>
      (e = .returned (.bool true) ∧ J o (pre ++ [x]) W' ∧ W1.heap.size ≤ W'.heap.size ∧ ∀ g, o = some g → W'.heap[g]? = W1.heap[g]?) ∨ (e = .returned (.bool false) ∧ Jx o (pre ++ [x]) W')) := by rw [hL]; exact hY
  have HC : Hid (∀ o' s W1, J o' s W1 → Cl bb [.slice (some ⟨b, o, none⟩) L cap] 22 W1 ∧ Rw b o l W1) := by rw [hL]; exact hC
  have H0 : Hid (J none [] W) := h0
  have HL : Hid (L = l.length) := hL
  have c0 := (HC.out _ _ _ h0).1.cell 0
  simp only [List.getElem?_cons_zero] at c0
  rw [← hL] at hl ⊢
  clear hY hJ hend hC hL h0
  refine callsIn_of_wp Tryz.func158 rfl trivial ?_ rfl
  simp only [Tryz.ntmps158, List.size_toArray, List.length_cons, List.length_nil, Nat.reduceAdd, Nat.reduceSub, Array.replicate_succ, Array.replicate_zero, List.push_toArray, List.append_toArray, List.nil_append, List.cons_append]
  gi_wp2
  clear c0
  gi_loopg [3] L (fun k pi wx => ∃ (j : Nat), pi = .int .i64 ((L : Int) - 1 - (j : Int)) ∧ j + k = L ∧ W.heap.size ≤ wx.heap.size ∧ Hid (J none (List.range j) wx))
  case atStart => exact ⟨0, by simp, by omega, by simp, H0.out⟩
  case round =>
    clear H0
    obtain ⟨j, rfl, hjk, hz, HR⟩ := hrel
    by_cases hjL : j < L
    · obtain ⟨I, hI⟩ : ∃ I, L = I + 1 + j := ⟨L - 1 - j, by omega⟩
      have e1 : (L : Int) - 1 - (j : Int) = (I : Int) := by omega
      have e2 : L - 1 - j = I := by omega
      have hc := HC.out _ _ _ HR.out
      have c0 := hc.1.cell 0
      simp only [List.getElem?_cons_zero] at c0
      have c1 := hc.2.2 I (by rw [← HL.out]; omega)
      have hIL : I < L := by omega
      obtain ⟨fn, tmps, assign, body, hy, hRd⟩ := HY.out none (List.range j) j wr HR.out (fun g e => by cases e) hz (by rw [← List.range_succ]; exact range_pre (by omega))
      rw [e1, e2] at hy
      obtain ⟨X, hX⟩ : ∃ X, X = l.getD I 0 := ⟨_, rfl⟩
      rw [← hX] at hy c1
      clear hX
      rw [e1]
      have HI : Hid (L = I + 1 + j) := hI
      clear hI e1 e2 hc
      gi_wp2
      refine ⟨fun _ => by omega, hRd.mono ?_⟩
      rintro e W' (⟨rfl, hJ', zk, hk'⟩ | ⟨rfl, hJx'⟩)
      · have HJ4 : Hid (J none (List.range (j + 1)) W') := by rw [List.range_succ]; exact hJ'
        clear hJ' hk' hRd hy
        gi_wp2
        gi_roundg (gk - 1)
        case rel =>
          have := HI.out
          exact ⟨j + 1, by congr 1; omega, by omega, by omega, HJ4.out⟩
        case measure => omega
      · gi_wp2
        exact bodyPost_ret (results_none rfl _ _ _) rfl ⟨⟨_, rfl⟩, .inr ⟨_, _, hJx'⟩⟩
    · obtain rfl : j = L := by omega
      have hz0 : decide ((0 : Int) ≤ (j : Int) - 1 - (j : Int)) = false := decide_eq_false (by omega)
      gi_wp2
      exact bodyPost_end (results_none rfl _ _ _) rfl ⟨⟨_, rfl⟩, .inl ⟨trivial, none, HR.out⟩⟩

end Go.Proofs.YtaflfbofkeppjaaGreatDoor
end
