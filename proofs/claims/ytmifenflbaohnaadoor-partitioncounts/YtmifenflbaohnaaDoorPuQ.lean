/- slices.Collect at rows of ints; partition.List. -/
import Derived.Test.YtmifenflbaohnaaDoorPuP
import Derived.Test.YtmifenflbaohnaaDoorPartitionCountsWc
import Derived.Test.YtmifenflbaohnaaDoorJnA
import Derived.Maps.OwnIn
set_option linter.unusedSimpArgs false
set_option linter.unusedVariables false
set_option maxRecDepth 100000
namespace Go.Proofs.YtmifenflbaohnaaDoor
open Go.RowKit
attribute [local go_sem] Oper.semAt_some

theorem Tryd.infoRow : (Tryd.prog.info? 36).map (fun i => (i.zero, i.size, i.bytes)) = some (some (.slice none 0 0), 1, 24) := by kernel_rfl
theorem row_keptQ {B e n size : Nat} {v : Value} {xs : List Value} {w w' : World} (h : w.ownsRow B e size v n xs) (k : ∀ g, v.ownBlock = some g → w'.heap[g]? = w.heap[g]?) : w'.ownsRow B e size v n xs := by
  obtain ⟨h1, h2 | ⟨g, cap, cur, e1, e2, e3, e4⟩⟩ := h
  · exact ⟨h1, .inl h2⟩
  · exact ⟨h1, .inr ⟨g, cap, cur, e1, e2, (k g (by rw [e1]; rfl)).trans e3, e4⟩⟩
theorem row_tyQ {B e n size g : Nat} {v : Value} {xs : List Value} {w : World} (h : w.ownsRow B e size v n xs) (hg : v.ownBlock = some g) : ∃ arr, w.heap[g]? = some (.cells arr e (0, 0)) := by
  obtain ⟨h1, h2 | ⟨g', cap, cur, e1, e2, e3, e4⟩⟩ := h
  · rw [h2.1] at hg; cases hg
  · rw [e1] at hg
    have : g' = g := Option.some.inj hg
    subst this
    exact ⟨cur, e3⟩
def Op2 (h : Nat) (O : Nat → Prop) (b : Nat) : Prop := O b ∨ b = h + 2
/-- The list's box, its row, its rows. -/
structure AS2 (h : Nat) (w : World) (O : Nat → Prop) (pre : List (List Int)) (W : World) : Prop where
  l : ∃ a c vs, Cl h [.slice a pre.length c] 26 W ∧ W.ownsRow (h + 3) 36 1 (.slice a pre.length c) pre.length vs ∧ (∀ g, (Value.slice a pre.length c).ownBlock = some g → ¬ O g) ∧ ∀ j (hj : j < pre.length), ∃ v, vs[j]? = some v ∧ FrL (Op2 h O) W v pre[j]
  own : ∀ b, O b → h + 1 ≤ b
  b : Below h w W
  sz : h + 1 ≤ W.heap.size
theorem AS2.turn {h : Nat} {w : World} {O O' : Nat → Prop} {pre : List (List Int)} {W W' : World} (s : AS2 h w O pre W) (hg : GrS O W W') (hn : ∀ b, O' b → O b ∨ W.heap.size ≤ b) : AS2 h w O' pre W' := by
  obtain ⟨a, c, vs, h1, h2, h3, h4⟩ := s.l
  have hO : ∀ g, g < W.heap.size → ¬ O g → ¬ O' g := fun g hlt hO q => by
    rcases hn g q with e | e
    · exact hO e
    · omega
  refine ⟨⟨a, c, vs, (hg.block h (by have := s.sz; omega) (fun e => by have := s.own h e; omega)).trans h1, row_keptQ h2 (fun g e => hg.block g (h2.lt g e).2 (h3 g e)), fun g e => hO g (h2.lt g e).2 (h3 g e), fun j hj => ?_⟩, fun b hb => ?_, ⟨hg.os.trans s.b.os, hg.tape.trans s.b.tape, hg.output.trans s.b.output, Nat.le_trans s.b.size hg.size, fun j hj => (hg.block j (by have := s.sz; omega) (fun e => by have := s.own j e; omega)).trans (s.b.block j hj)⟩, Nat.le_trans s.sz hg.size⟩
  · obtain ⟨v, a1, a2⟩ := h4 j hj
    refine ⟨v, a1, a2.kept (fun g hlt hO2 _ => ⟨hg.block g hlt (fun e => hO2 (.inl e)), ?_⟩)⟩
    rintro (e | e)
    · exact hO g hlt (fun q => hO2 (.inl q)) e
    · exact hO2 (.inr e)
  · rcases hn b hb with e | e
    · exact s.own b e
    · have := s.sz; omega
theorem AS2.put {h : Nat} {w : World} {O : Nat → Prop} {pre : List (List Int)} {W : World} (s : AS2 h w O pre W) (ob : Obj) (hr : ∀ g, (∃ a c vs, W.ownsRow (h + 3) 36 1 (.slice a pre.length c) pre.length vs ∧ (Value.slice a pre.length c).ownBlock = some g) → h + 3 ≤ g) : AS2 h w O pre (W.putObj (h + 2) ob) := by
  obtain ⟨a, c, vs, h1, h2, h3, h4⟩ := s.l
  refine ⟨⟨a, c, vs, h1.put ob (by omega), row_keptQ h2 (fun g e => World.putObj_heap_other (by have := (h2.lt g e).1; omega)), h3, fun j hj => ?_⟩, s.own, s.b.grown (grownBy_putObj' W _ ob) (by have := s.sz; omega) (fun k e => by cases e; omega), by simpa using s.sz⟩
  obtain ⟨v, a1, a2⟩ := h4 j hj
  exact ⟨v, a1, a2.kept (fun g hlt hO2 _ => ⟨World.putObj_heap_other (fun e => hO2 (.inr e)), hO2⟩)⟩
/-- A row of rows, each in an array of ints. -/
structure Rows3 (w : World) (v : Value) (LL : List (List Int)) : Prop where
  shape : ∃ (aa : Option Addr) (g o cap : Nat), v = .slice aa LL.length cap ∧ (0 < LL.length → aa = some ⟨g, o, none⟩ ∧ ∃ arr fr, w.heap[g]? = some (.cells arr 36 fr)) ∧ ∀ i (hi : i < LL.length), ∃ r, w.cell? ⟨g, o + i, none⟩ = some r ∧ FrL No w r LL[i]
theorem Rows3.two {w : World} {v : Value} {LL : List (List Int)} (h : Rows3 w v LL) : Rows2 w v LL := by
  obtain ⟨aa, g, o, cap, h1, h2, h3⟩ := h.shape
  refine ⟨aa, g, o, cap, h1, fun h => ⟨(h2 h).1, ?_⟩, fun i hi => ?_⟩
  · obtain ⟨arr, fr, hb⟩ := (h2 h).2
    exact (Array.getElem?_eq_some_iff.1 hb).1
  · obtain ⟨r, a, b⟩ := h3 i hi
    exact ⟨r, a, b.is⟩
theorem Rows3.kept {w w' : World} {v : Value} {LL : List (List Int)} (h : Rows3 w v LL) (k : ∀ (g : Nat) (arr : Array Value) (t : TypeId) (fr : Nat × Nat), w.heap[g]? = some (.cells arr t fr) → t = 3 ∨ t = 36 → w'.heap[g]? = w.heap[g]?) : Rows3 w' v LL := by
  obtain ⟨aa, g, o, cap, h1, h2, h3⟩ := h.shape
  refine ⟨aa, g, o, cap, h1, fun h => ⟨(h2 h).1, ?_⟩, fun i hi => ?_⟩
  · obtain ⟨arr, fr, hb⟩ := (h2 h).2
    exact ⟨arr, fr, (k g _ _ _ hb (.inr rfl)).trans hb⟩
  · obtain ⟨r, a, b⟩ := h3 i hi
    obtain ⟨arr, fr, hb⟩ := (h2 (by omega)).2
    exact ⟨r, (World.cell?_of_block (a := ⟨g, o + i, none⟩) (k g _ _ _ hb (.inr rfl))).trans a, b.kept (fun g _ hO ⟨arr, fr, hb⟩ => ⟨k g _ _ _ hb (.inl rfl), hO⟩)⟩
theorem Rows3.below {w w' : World} {v : Value} {LL : List (List Int)} (h : Rows3 w v LL) (c : Below w.heap.size w w') : Rows3 w' v LL := h.kept (fun g arr t fr hb _ => c.block g (Array.getElem?_eq_some_iff.1 hb).1)
theorem Rows3.set {w : World} {v : Value} {LL : List (List Int)} {b : Nat} {l : List Value} (h : Rows3 w v LL) (hb : Cl b l 23 w) (o : Nat) (u : Value) : Rows3 (w.setCell ⟨b, o, none⟩ u) v LL := h.kept (fun g arr t fr hg ht => Below.heap_setCell _ _ _ _ (fun e => by
  unfold Cl at hb
  have e : g = b := e
  rw [← e, hg] at hb
  injection hb with hb
  injection hb with _ hb
  rcases ht with ht | ht
  · rw [ht] at hb; exact absurd hb (by decide)
  · rw [ht] at hb; exact absurd hb (by decide)))
theorem frl_slice {O : Nat → Prop} {W : World} {v : Value} {x : List Int} (h : FrL O W v x) : ∃ a k c, v = .slice a k c := by
  rcases h with ⟨_, rfl⟩ | ⟨_, g, cap, _, _, rfl, _⟩
  · exact ⟨_, _, _, rfl⟩
  · exact ⟨_, _, _, rfl⟩

set_option maxHeartbeats 8000000 in
theorem AppendSeq2_any (gf : Nat) (lb : Array Value) (C : World → Prop) (xs : List (List Int)) (hx : xs.length ≤ 33554432) (w : World) (hseq : ∀ n, 30 ≤ n → YieldsS AnyO Fence.wide n Tryd.prog gf lb enL C xs)
    (eg : ∀ args w, (callFunc gf args).run Tryd.prog w = .ok (.enter gf args) w) (hC : ∀ W, Below w.heap.size w W → C W) :
    Calls Tryd.prog 43 #[.slice none 0 0, .func (.func gf) #[] lb] w fun e w' => ∃ v, e = .returned v ∧ Rows3 w' v xs ∧ Below w.heap.size w w' := by
  obtain ⟨i0, hi, hz0, hz1, hz2⟩ := info_parts Tryd.infoRow
  have HI : Hid (Tryd.prog.info? 36 = some i0 ∧ i0.zero = some (.slice none 0 0) ∧ i0.size = 1 ∧ i0.bytes = 24) := ⟨hi, hz0, hz1, hz2⟩
  have HS : Hid (∀ n, 30 ≤ n → YieldsS AnyO Fence.wide n Tryd.prog gf lb enL C xs) := hseq
  have HC : Hid (∀ W, Below w.heap.size w W → C W) := hC
  have HE : Hid (∀ args w, (callFunc gf args).run Tryd.prog w = .ok (.enter gf args) w) := eg
  clear hi hz0 hz1 hz2 hseq hC eg
  refine (callsIn_wide (n := 40)).1 ?_
  refine callsIn_of_wp_marks Tryd.func43 rfl trivial ?_ rfl
  simp only [Tryd.ntmps43, List.size_toArray, List.length_cons, List.length_nil, Nat.reduceAdd, Nat.reduceSub, Array.replicate_succ, Array.replicate_zero, List.push_toArray, List.append_toArray, List.nil_append, List.cons_append]
  gi_wp2
  obtain ⟨w1, hw1⟩ : ∃ w1, w1 = w.alloc (.cells #[.slice none 0 0] 26) := ⟨_, rfl⟩
  rw [← hw1]
  have z1 : w1.heap.size = w.heap.size + 1 := by rw [hw1, World.size_alloc]
  have C0 : AS2 w.heap.size w No [] w1 := by
    refine ⟨⟨none, 0, [], ?_, World.ownsRow_nil _ _ _ _, fun g e h => h.elim, fun j hj => by simp at hj⟩, fun b h => h.elim, ?_, by omega⟩
    · rw [hw1]; exact Cl.new [.slice none 0 0] 26 w
    · rw [hw1]; exact (Below.refl _ _).alloc (Nat.le_refl _) _
  clear hw1
  refine wpIn_rangeS (A := AnyO) trivial (F := Fence.wide) (n := 40) rfl (by decide) (gf := gf) (lb := lb) rfl trivial HE.out (HS.out _ (by decide)) (fun x O W vs h => by obtain ⟨v, rfl, _⟩ := h; rfl)
    (fun O pre W => AS2 w.heap.size w O pre W)
    (fun c O pre W => False)
    ?ab (fun c O O' s W W' _ h _ _ => h.elim) ?abp (fun c O s W ob h => h) (fun O s W h => HC.out W h.b) ?hep C0
    (fun vs => { tmps := #[.slice none 0 0, .func (.func gf) #[] lb, .pointer (some ⟨w.heap.size, 0, none⟩), undef, .slice none 0 0, vs.getD 0 undef, .func (.func gf) #[] lb, vs.getD 0 undef, undef, undef, undef, undef, undef], defers := [] }) ?assign ?body ?done ?stop
  case ab => exact fun O O' s A B _ h hg hn => h.turn hg hn
  case abp => exact fun O s A ob h => by rw [z1]; exact h.put ob (fun g ⟨a, c, vs, h2, e⟩ => (h2.lt g e).1)
  case hep =>
    rintro x O X vs ob s h ⟨v, rfl, hv⟩ hnl
    refine ⟨v, rfl, hv.kept (fun g hg hO ⟨arr, fr, hb⟩ => ⟨World.putObj_heap_other (fun e => ?_), hO⟩)⟩
    rw [e] at hb
    exact hnl _ _ _ hb
  case assign =>
    rintro l x O vs X K2 ⟨v, rfl, hv⟩ hK2
    gi_wp2
    simpa using hK2
  case body =>
    rintro l O pre x vs0 W _ hst hog hpre hz ⟨v, rfl, hv⟩ hnl
    obtain ⟨n, hn⟩ : ∃ n, n = pre.length := ⟨_, rfl⟩
    have hn1 : n ≤ 33554432 := by have := hpre.length_le; simp at this; omega
    obtain ⟨a, c, vs, h1, h2, h3, h4⟩ := hst.l
    have hvl : vs.length = pre.length := by have := h2.1; omega
    rw [z1] at hnl
    have hv2 : FrL (Op2 w.heap.size O) W v x := hv.kept (fun g hg hO ⟨arr, fr, hb⟩ => ⟨rfl, by
      rintro (e | e)
      · exact hO e
      · rw [e] at hb; exact hnl _ _ _ hb⟩)
    obtain ⟨av, kv, cv, rfl⟩ := frl_slice hv2
    rw [← hn] at h1 h2 h3
    have q1 := h1.cell 0
    have q2 := h1.frozen 0
    simp at q1
    have HST : Hid (AS2 w.heap.size w O pre W) := hst
    have HV : Hid (Cl w.heap.size [.slice a n c] 26 W) := h1
    have HROW : Hid (W.ownsRow (w.heap.size + 3) 36 1 (.slice a n c) n vs) := h2
    have HNO : Hid (∀ g, (Value.slice a n c).ownBlock = some g → ¬ O g) := h3
    have HOG : Hid (∀ g, O g → w1.heap.size + 2 ≤ g ∧ g < W.heap.size) := hog
    have HNn : Hid (n = pre.length ∧ vs.length = pre.length) := ⟨hn, hvl⟩
    have HFr : Hid (FrL (Op2 w.heap.size O) W (.slice av kv cv) x ∧ ∀ j (hj : j < pre.length), ∃ v, vs[j]? = some v ∧ FrL (Op2 w.heap.size O) W v pre[j]) := ⟨hv2, h4⟩
    clear h1 h2 h3 hst hn hog hpre hv hv2 h4 hnl hvl
    have hgv : (#[Value.slice av kv cv] : Array Value).getD 0 undef = .slice av kv cv := rfl
    rw [hgv]
    clear hgv
    gi_wp2_with (gi_at_builtin; refine wpListIn_append_own_at _ rfl _ _ 26 rfl (w.heap.size + 3) 36 i0 (.slice none 0 0) 1 24 Tryd.underlying26 HI.out.1 HI.out.2.1 HI.out.2.2.1 HI.out.2.2.2 rfl (by decide) (.slice a n c) n vs rfl (HROW.out.alloc _) ⟨W.heap.size, 0, none⟩ 1 1 [.slice av kv cv] rfl rfl (own_news (Cl.new [.slice av kv cv] 36 W)) (by simp [Value.oneCell']) (by simp only [maxLen]; omega) (by omega) (by simp; omega) ?_; intro v' w2 hown' hgrow _ hob; obtain ⟨g', cap', rfl⟩ := ownsRow_succ hown'; have hnb : ∀ b, b < w.heap.size + 3 → (Value.slice a n c).ownBlock ≠ some b := fun b hb e => by { have := (HROW.out.lt b e).1; omega }; have A1 : Cl w.heap.size [.slice a n c] 26 w2 := (HV.out.alloc _).grown hgrow (hnb _ (by omega)); have r1 := A1.cell 0; have r2 := A1.frozen 0; simp at r1)
    have hzW := HST.out.sz
    have NK : ¬ keptS w1.heap.size O w.heap.size := by
      rintro (e | e | e)
      · omega
      · omega
      · have := (HOG.out _ e).1; omega
    have hA2 := A1.set 0 (.slice (some ⟨g', 0, none⟩) (n + 1) cap')
    have hkeep : ∀ g, g < W.heap.size → (∃ arr fr, W.heap[g]? = some (.cells arr 3 fr)) → (w2.setCell ⟨w.heap.size, 0, none⟩ (.slice (some ⟨g', 0, none⟩) (n + 1) cap')).heap[g]? = W.heap[g]? := by
      rintro g hg ⟨arr, fr, hb⟩
      have hne : g ≠ w.heap.size := by
        intro e
        have h1 := HV.out
        unfold Cl at h1
        rw [e] at hb
        rw [hb] at h1
        injection h1 with h1
        injection h1 with _ h1
        exact absurd h1 (by decide)
      have hnr : some g ≠ (Value.slice a n c).ownBlock := by
        intro e
        obtain ⟨arr2, hb2⟩ := row_tyQ HROW.out e.symm
        rw [hb] at hb2
        injection hb2 with h1
        injection h1 with _ h1
        exact absurd h1 (by decide)
      exact (Below.heap_setCell _ _ _ _ hne).trans ((hgrow.block g (by simp; omega) hnr).trans (Below.heap_alloc _ _ _ hg))
    have hlen : (pre ++ [x]).length = n + 1 := by rw [HNn.out.1]; simp
    refine ⟨?_, ⟨some ⟨g', 0, none⟩, cap', vs ++ [.slice av kv cv], ?_, ?_, ?_, ?_⟩, HST.out.own, ?_, ?_⟩
    · refine (((KP.refl _ W).alloc _).grown hgrow (fun g e h => ?_)).setCell NK _
      have h5 := (HROW.out.lt g e).1
      rcases h with h | h | h
      · omega
      · omega
      · exact HNO.out g e h
    · rw [hlen]; exact hA2
    · rw [hlen]
      exact ownsRow_setCell_below hown' (by show w.heap.size < _; omega) _
    · rw [hlen]
      intro g e hO
      have e3 : (Value.slice (some ⟨g', 0, none⟩) (n + 1) cap').ownBlock = some g := e
      rcases hob with h | h
      · exact HNO.out g (h ▸ e3) hO
      · rw [h] at e3
        have h5 := (HOG.out g hO).2
        simp at e3
        omega
    · intro j hj
      rcases Nat.lt_or_ge j pre.length with q | q
      · obtain ⟨u, b1, b2⟩ := HFr.out.2 j q
        refine ⟨u, by rw [List.getElem?_append_left (by have := HNn.out.2; omega)]; exact b1, ?_⟩
        rw [List.getElem_append_left q]
        exact b2.kept (fun g hg hO hT => ⟨hkeep g hg hT, hO⟩)
      · have hj2 : j = pre.length := by rw [hlen] at hj; have := HNn.out.1; omega
        subst hj2
        refine ⟨.slice av kv cv, by rw [List.getElem?_append_right (by have := HNn.out.2; omega), HNn.out.2, Nat.sub_self]; rfl, ?_⟩
        rw [List.getElem_append_right (Nat.le_refl _)]
        simp only [Nat.sub_self, List.getElem_cons_zero]
        exact HFr.out.1.kept (fun g hg hO hT => ⟨hkeep g hg hT, hO⟩)
    · exact ((HST.out.b.alloc (by omega) _).grown hgrow (by simp; omega) (fun k e => by have := (HROW.out.lt k e).1; omega)).setCell (by simp) _
    · have := hgrow.size
      simp [World.setCell] at this ⊢
      omega
  case done =>
    rintro O W _ hst hK
    obtain ⟨a, c, vs, h1, h2, h3, h4⟩ := hst.l
    have q1 := h1.cell 0
    simp at q1
    have HST : Hid (AS2 w.heap.size w O xs W) := hst
    have HROW : Hid (W.ownsRow (w.heap.size + 3) 36 1 (.slice a xs.length c) xs.length vs ∧ ∀ j (hj : j < xs.length), ∃ v, vs[j]? = some v ∧ FrL (Op2 w.heap.size O) W v xs[j]) := ⟨h2, h4⟩
    have HK : Hid (W.heap[w.heap.size + 1]? = some (.deferred (some []))) := by rw [z1] at hK; exact hK
    clear h1 h2 h3 h4 hst hK
    gi_wp2
    rw [z1]
    refine ⟨by simp, .inl ⟨_, _, rfl, run_takeDeferred HK.out, ?_⟩⟩
    refine ⟨.slice a xs.length c, by simp [results, Tryd.results43, go_sem], _, rfl, ?_, HST.out.b.grown (grownBy_putObj' _ _ _) HST.out.b.size (fun k e => by cases e; omega)⟩
    have hkeep : ∀ g, g < W.heap.size → (∃ arr t fr, W.heap[g]? = some (.cells arr t fr)) → (W.putObj (w.heap.size + 1) (.deferred none)).heap[g]? = W.heap[g]? := by
      rintro g hg ⟨arr, t, fr, hb⟩
      refine World.putObj_heap_other (fun e => ?_)
      rw [e, HK.out] at hb
      cases hb
    obtain ⟨hr1, hr2 | ⟨g, cap, cur, e1, e2, e3, e4, e5, e6, e7⟩⟩ := HROW.out.1
    · refine ⟨a, 0, 0, c, rfl, fun h => by omega, fun i hi => by omega⟩
    · simp only [Value.slice.injEq] at e1
      obtain ⟨rfl, _, rfl⟩ := e1
      have hgl : g < W.heap.size := (Array.getElem?_eq_some_iff.1 e3).1
      refine ⟨some ⟨g, 0, none⟩, g, 0, c, rfl, fun _ => ⟨rfl, _, _, (hkeep g hgl ⟨_, _, _, e3⟩).trans e3⟩, fun i hi => ?_⟩
      obtain ⟨v, b1, b2⟩ := HROW.out.2 i hi
      refine ⟨v, ?_, b2.kept (fun g hg hO ⟨arr, fr, hb⟩ => ⟨hkeep g hg ⟨arr, _, fr, hb⟩, fun h => h⟩)⟩
      rw [World.cell?_of_block (a := ⟨g, 0 + i, none⟩) (hkeep g hgl ⟨_, _, _, e3⟩)]
      rw [← e7, Nat.mul_one, List.getElem?_take, if_pos hi] at b1
      simp only [World.cell?, e3, Nat.zero_add]
      rw [← Array.getElem?_toList]; exact b1
  case stop =>
    rintro c O pre W hf
    exact hf.elim

set_option maxHeartbeats 1000000 in
theorem Collect2_any (gf : Nat) (lb : Array Value) (C : World → Prop) (xs : List (List Int)) (hx : xs.length ≤ 33554432) (w : World) (hseq : ∀ n, 30 ≤ n → YieldsS AnyO Fence.wide n Tryd.prog gf lb enL C xs)
    (eg : ∀ args w, (callFunc gf args).run Tryd.prog w = .ok (.enter gf args) w) (hC : ∀ W, Below w.heap.size w W → C W) :
    Calls Tryd.prog 25 #[.func (.func gf) #[] lb] w fun e w' => ∃ v, e = .returned v ∧ Rows3 w' v xs ∧ Below w.heap.size w w' := by
  have HA : Hid (Calls Tryd.prog 43 #[.slice none 0 0, .func (.func gf) #[] lb] w fun e w' => ∃ v, e = .returned v ∧ Rows3 w' v xs ∧ Below w.heap.size w w') := AppendSeq2_any gf lb C xs hx w hseq eg hC
  clear hseq eg hC
  go_enter Tryd.func25, Tryd.ntmps25
  go_wp2_with fail
  refine HA.out.mono ?_
  rintro e w1 ⟨v, rfl, h1, k1⟩
  go_wp2
  go_ret
  exact ⟨v, rfl, h1, k1⟩
theorem prw_of (n : Nat) : Prw n (PT.ptl n n n) := by
  have he := PT.ptl_each n n n (Nat.le_refl _)
  refine ⟨PT.ptl_len n n n (Nat.le_refl _), fun r hr j hj => (he r hr).rng j hj, fun r hr j hj => (he r hr).dn j hj, fun r hr => (he r hr).sum, fun i h => ?_⟩
  exact List.pairwise_iff_getElem.1 (PT.ptl_ord n n n) i (i + 1) (by omega) h (by omega)
theorem one_cellQ {w : World} (n : Int) : ∀ j, j < [n].length → (w.alloc (.cells #[.int .i64 n] 3)).cell? ⟨w.heap.size, 0 + j, none⟩ = some (.int .i64 ([n].getD j 0)) := fun j hj => by
  have : j = 0 := by simp at hj; omega
  subst this
  exact (Cl.new [.int .i64 n] 3 w).cell 0
theorem nb_oneQ (lo hi n : Int) : nb lo hi 0 [n] = if lo ≤ n ∧ n ≤ hi then (0, 0) else (3, 0) := by
  unfold nb nb bwB
  by_cases h : lo ≤ n ∧ n ≤ hi
  · rw [if_pos h, if_pos (by simp [h.1, h.2])]
  · rw [if_neg h, if_neg (by simp; omega)]; rfl
set_option maxHeartbeats 1000000 in
theorem List_bad (n : Int) (w : World) (hn : n < 0 ∨ 25 < n) :
    Calls Tryd.prog 7 #[.int .i64 n] w fun e w' => e = .returned (.tuple #[.slice none 0 0, .agg #[.int .i64 3, .int .i64 0]]) ∧ Below w.heap.size w w' := by
  have HB : Hid (∀ W : World, Calls Tryd.prog 22 #[.int .i64 0, .int .i64 25, .slice (some ⟨W.heap.size, 0, none⟩) 1 1] (W.alloc (.cells #[.int .i64 n] 3)) fun e w' => e = .returned (.agg #[.int .i64 3, .int .i64 0]) ∧ Below (W.heap.size + 1) (W.alloc (.cells #[.int .i64 n] 3)) w') := fun W => by
    have := between_any 0 25 [n] W.heap.size 0 1 (W.alloc (.cells #[.int .i64 n] 3)) (by simp) (by simp) (one_cellQ n)
    rw [nb_oneQ, if_neg (by omega)] at this
    simpa using this
  clear hn
  go_enter Tryd.func7, Tryd.ntmps7
  obtain ⟨W0, hW0⟩ : ∃ W, w.alloc (.cells #[.int .i64 0, .int .i64 0] 23) = W := ⟨_, rfl⟩
  have S0 := Sv.new 0 0 w
  have k0 := below_one w (.cells #[.int .i64 0, .int .i64 0] 23)
  have z0 : W0.heap.size = w.heap.size + 1 := by rw [← hW0]; simp
  rw [hW0] at S0 k0
  go_wp2_with fail
  rw [← z0]
  refine (HB.out W0).mono ?_
  rintro e w1 ⟨rfl, hb⟩
  have k1 : Below W0.heap.size W0 (W0.alloc (.cells #[.int .i64 n] 3)) := below_one W0 _
  have k2 : Below w.heap.size w w1 := (k0.trans (k1.mono (by omega))).trans (hb.mono (by omega))
  have S1 : Sv w.heap.size 0 0 w1 := (S0.below k1).below (hb.mono (by simp))
  obtain ⟨q0, q1, q2, q3, hz⟩ := S1
  have HK2 : Hid (Below w.heap.size w w1) := k2
  clear HB hb k1 k2 k0 hW0 z0
  go_wp2
  go_region
  all_goals
    go_wp2
    refine bodyPost_ret (v := .tuple #[.slice none 0 0, .agg #[.int .i64 3, .int .i64 0]]) (by simp [results, Tryd.results7, go_sem, q0, q1, hz]) rfl ⟨rfl, ?_⟩
    refine Below.drew (Below.alloc (Below.setCell (Below.setCell HK2.out ?_ _) ?_ _) ?_ _) <;> first | omega | (simp; done) | (simp; omega)
set_option maxHeartbeats 1000000 in
theorem List_ok (n : Nat) (w : World) (hn : n ≤ 25) :
    Calls Tryd.prog 7 #[.int .i64 (n : Int)] w fun e w' => ∃ v LL, e = .returned (.tuple #[v, .agg #[.int .i64 0, .int .i64 0]]) ∧ Rows2 w' v LL ∧ Prw n LL ∧ Below w.heap.size w w' := by
  have HB : Hid (∀ W : World, Calls Tryd.prog 22 #[.int .i64 0, .int .i64 25, .slice (some ⟨W.heap.size, 0, none⟩) 1 1] (W.alloc (.cells #[.int .i64 (n : Int)] 3)) fun e w' => e = .returned (.agg #[.int .i64 0, .int .i64 0]) ∧ Below (W.heap.size + 1) (W.alloc (.cells #[.int .i64 (n : Int)] 3)) w') := fun W => by
    have := between_any 0 25 [(n : Int)] W.heap.size 0 1 (W.alloc (.cells #[.int .i64 (n : Int)] 3)) (by simp) (by simp) (one_cellQ _)
    rw [nb_oneQ, if_pos (by omega)] at this
    simpa using this
  have hlen : (PT.ptl n n n).length ≤ 33554432 := by
    rw [PT.ptl_len n n n (Nat.le_refl _)]
    have h1 := PT.pt_le n n
    have h2 : 2 ^ n ≤ 2 ^ 25 := Nat.pow_le_pow_right (by omega) hn
    have h3 : (2 : Nat) ^ 25 = 33554432 := by decide
    omega
  have HCo : Hid (∀ (b1 b2 : Nat) (W : World), Cl b1 [.int .i64 (n : Int)] 3 W → Cl b2 [.int .i64 (n : Int)] 3 W → Calls Tryd.prog 25 #[.func (.func 44) #[] #[.pointer (some ⟨b1, 0, none⟩), .pointer (some ⟨b2, 0, none⟩)]] W fun e w' => ∃ v, e = .returned v ∧ Rows3 w' v (PT.ptl n n n) ∧ Below W.heap.size W w') := fun b1 b2 W h1 h2 =>
    Collect2_any _ _ (CL n n b1 b2) (PT.ptl n n n) hlen W (fun m hm => parts_yields n n n (Nat.le_refl _) hn hn b1 b2 m (by omega)) (enters_of Tryd.func44 (by kernel_rfl) rfl) (fun W' k => ⟨h1.below k, h2.below k⟩)
  clear hlen
  go_enter Tryd.func7, Tryd.ntmps7
  obtain ⟨W0, hW0⟩ : ∃ W, w.alloc (.cells #[.int .i64 0, .int .i64 0] 23) = W := ⟨_, rfl⟩
  have S0 := Cl.new [.int .i64 0, .int .i64 0] 23 w
  have k0 := below_one w (.cells #[.int .i64 0, .int .i64 0] 23)
  have z0 : W0.heap.size = w.heap.size + 1 := by rw [← hW0]; simp
  rw [hW0] at S0 k0
  go_wp2_with fail
  rw [← z0]
  refine (HB.out W0).mono ?_
  rintro e w1 ⟨rfl, hb⟩
  have k1 : Below W0.heap.size W0 (W0.alloc (.cells #[.int .i64 (n : Int)] 3)) := below_one W0 _
  have k2 : Below w.heap.size w w1 := (k0.trans (k1.mono (by omega))).trans (hb.mono (by omega))
  have S1 : Cl w.heap.size [.int .i64 0, .int .i64 0] 23 w1 := (S0.below k1).below (hb.mono (by simp))
  have HS1 : Hid (Cl w.heap.size [.int .i64 0, .int .i64 0] 23 w1 ∧ Below w.heap.size w w1) := ⟨S1, k2⟩
  clear HB hb k1 k2 k0 hW0 z0 S1 S0
  go_wp2_with fail
  refine (partitions_any (n : Int) (n : Int) _).mono ?_
  rintro e w2 ⟨rfl, hw2⟩
  obtain ⟨w1', hw1'⟩ : ∃ X, X = w1.alloc (.cells #[.int .i64 0, .int .i64 0] 23) := ⟨_, rfl⟩
  rw [← hw1'] at hw2 ⊢
  have a1 : Cl w1'.heap.size [.int .i64 (n : Int)] 3 w2 := by rw [hw2]; exact (Cl.new _ _ w1').alloc _
  have a2 : Cl (w1'.heap.size + 1) [.int .i64 (n : Int)] 3 w2 := by
    rw [hw2]
    have := Cl.new [.int .i64 (n : Int)] 3 (w1'.alloc (.cells #[.int .i64 (n : Int)] 3))
    rw [World.size_alloc] at this
    exact this
  have k12 : Below w1.heap.size w1 w2 := by
    have e1 := below_one w1 (.cells #[.int .i64 0, .int .i64 0] 23)
    rw [← hw1'] at e1
    have e2 := below_one w1' (.cells #[.int .i64 (n : Int)] 3)
    have e3 := below_one (w1'.alloc (.cells #[.int .i64 (n : Int)] 3)) (.cells #[.int .i64 (n : Int)] 3)
    rw [hw2]
    exact e1.trans ((e2.trans (e3.mono e2.size)).mono e1.size)
  have HS2 : Hid (Cl w.heap.size [.int .i64 0, .int .i64 0] 23 w2 ∧ Below w.heap.size w w2) := ⟨HS1.out.1.below k12, HS1.out.2.trans (k12.mono HS1.out.2.size)⟩
  have HC2 := HCo.out _ _ w2 a1 a2
  have HC3 : Hid (Calls Tryd.prog 25 #[.func (.func 44) #[] #[.pointer (some ⟨w1'.heap.size, 0, none⟩), .pointer (some ⟨w1'.heap.size + 1, 0, none⟩)]] w2 fun e w' => ∃ v, e = .returned v ∧ Rows3 w' v (PT.ptl n n n) ∧ Below w2.heap.size w2 w') := HC2
  clear hw2 hw1' a1 a2 k12 HS1 HC2 HCo
  go_wp2_with fail
  refine HC3.out.mono ?_
  rintro e w3 ⟨v, rfl, hr, k3⟩
  have HS3 : Hid (Cl w.heap.size [.int .i64 0, .int .i64 0] 23 w3 ∧ Below w.heap.size w w3 ∧ Rows3 w3 v (PT.ptl n n n)) := ⟨HS2.out.1.below k3, HS2.out.2.trans (k3.mono HS2.out.2.size), hr⟩
  have q0 := HS3.out.1.cell 0
  have q1 := HS3.out.1.cell 1
  have q2 := HS3.out.1.frozen 0
  have q3 := HS3.out.1.frozen 1
  have hz := HS3.out.1.lt
  simp only [List.getElem?_cons_zero, List.getElem?_cons_succ] at q0 q1
  clear hr k3 HS2 HC3
  go_wp2
  refine bodyPost_ret (v := .tuple #[v, .agg #[.int .i64 0, .int .i64 0]]) (by simp [results, Tryd.results7, go_sem, q0, q1, hz]) rfl ⟨v, _, rfl, ?_, prw_of n, Below.setCell (Below.setCell HS3.out.2.1 (Nat.le_refl _) _) (Nat.le_refl _) _⟩
  exact ((HS3.out.2.2.set HS3.out.1 0 _).set (HS3.out.1.set 0 _) 1 _).two

end Go.Proofs.YtmifenflbaohnaaDoor
