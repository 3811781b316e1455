/- Markov: slices.SortFunc of triples, equation.byPlaces, equation.markov. -/
import Derived.Test.YtcbepaionliepaaMkE
set_option linter.unusedSimpArgs false
set_option linter.unusedVariables false
set_option maxRecDepth 100000
namespace Go.Proofs.Ytcbepaionliepaa
open Go.RowKit Go.Shelf Go.Sort Go.Maps

theorem tcl3_get (l : List T3) {j : Nat} (h : j < l.length * 3) : (tcl3 l)[j]? = some ((tl3 l[j / 3]!)[j % 3]!) := by
  induction l generalizing j with
  | nil => simp at h
  | cons a l ih =>
    rw [tcl3]
    by_cases hj : j < 3
    · rw [List.getElem?_append_left (by simp [tl3]; omega)]
      have h0 : j / 3 = 0 := by omega
      have h1 : j % 3 = j := by omega
      rw [h0, h1]
      match j, hj with
      | 0, _ => rfl
      | 1, _ => rfl
      | 2, _ => rfl
    · rw [List.getElem?_append_right (by simp [tl3]; omega)]
      have e : j - (tl3 a).length = j - 3 := by simp [tl3]
      rw [e, ih (by simp at h; omega)]
      have h0 : j / 3 = (j - 3) / 3 + 1 := by omega
      have h1 : j % 3 = (j - 3) % 3 := by omega
      rw [h0, h1]
      simp
theorem holds_m {l : List T3} {blk : Nat} {w : World} : HoldsK tl3 3 w blk 0 l.toArray ↔ ∀ j, j < l.length * 3 → w.cell? ⟨blk, j, none⟩ = (tcl3 l)[j]? ∧ w.frozen? ⟨blk, j, none⟩ = false := by
  unfold HoldsK Holds
  constructor
  · intro h j hj
    have h1 := h j (by simpa using hj)
    rw [Nat.zero_add, get_flatK _ _ _ _ (by simpa using hj)] at h1
    rw [tcl3_get l hj]
    refine ⟨?_, h1.2⟩
    rw [h1.1]; simp
  · intro h j hj
    have hj' : j < l.length * 3 := by simpa using hj
    have h1 := h j hj'
    rw [tcl3_get l hj'] at h1
    rw [Nat.zero_add, get_flatK _ _ _ _ (by simpa using hj')]
    refine ⟨?_, h1.2⟩
    rw [h1.1]; simp
theorem sortK_block {blk n k : Nat} {w : World} {d : Array T3} {os : Array Obj} (hk : k ≠ blk) (hb : k < w.heap.size) : (sortWorldK tl3 3 w blk 0 n d os).heap[k]? = w.heap[k]? := by
  unfold sortWorldK
  show ((w.heap.modify blk _) ++ os)[k]? = w.heap[k]?
  rw [Array.getElem?_append_left (by simp; omega), Array.getElem?_modify, if_neg (by omega)]
theorem sortK_size {blk n : Nat} {w : World} {d : Array T3} {os : Array Obj} : w.heap.size ≤ (sortWorldK tl3 3 w blk 0 n d os).heap.size := by
  simp [sortWorldK, grow, putRowK, putRow, mapBlock, Sort.ahead]
theorem below_sortM {B blk n : Nat} {w : World} {d : Array T3} {os : Array Obj} (hB : B ≤ blk) (hb : blk < w.heap.size) : Below B w (sortWorldK tl3 3 w blk 0 n d os) :=
  ⟨rfl, rfl, rfl, sortK_size, fun k hk => sortK_block (by omega) (by omega)⟩
theorem enters_places : ∀ args w, (callFunc 66 args).run Try.prog w = .ok (.enter 66 args) w := enters_of Try.func66 (by kernel_rfl) rfl
theorem pw_inj {l : List T3} (h : l.Pairwise (fun a b => MV.tz a < MV.tz b)) {a b : T3} (ha : a ∈ l) (hb : b ∈ l) (e : MV.tz a = MV.tz b) : a = b := by
  induction l with
  | nil => cases ha
  | cons c l ih =>
    have h1 := List.pairwise_cons.1 h
    rcases List.mem_cons.1 ha with e1 | h2
    · rcases List.mem_cons.1 hb with e2 | h3
      · rw [e1, e2]
      · have := h1.1 b h3; rw [← e1] at this; omega
    · rcases List.mem_cons.1 hb with e2 | h3
      · have := h1.1 a h2; rw [← e2] at this; omega
      · exact ih h1.2 h2 h3

/-- What is sorted: the table up to most. -/
theorem SortFunc_m (most : Nat) (l : List T3) (blk cap bp bq : Nat) (w : World) (hH : ∀ j, j < l.length * 3 → w.cell? ⟨blk, j, none⟩ = (tcl3 l)[j]? ∧ w.frozen? ⟨blk, j, none⟩ = false) (hblk : blk < w.heap.size) (hnd : l.Nodup) (hm : ∀ t, t ∈ l ↔ t ∈ MV.um most) (hp : Pc bp bq w) (h1 : bp ≠ blk) (h2 : bq ≠ blk) :
    Calls Try.prog 49 #[.slice (some ⟨blk, 0, none⟩) l.length cap, .func (.func 66) #[] #[.pointer (some ⟨bp, 0, none⟩)]] w fun e w' =>
      (∃ v, e = .returned v) ∧ l.length = (MV.um most).length ∧ (∀ j, j < (MV.um most).length * 3 → w'.cell? ⟨blk, j, none⟩ = (tcl3 (MV.um most))[j]?) ∧ w.heap.size ≤ w'.heap.size ∧ w'.os = w.os ∧ w'.tape = w.tape ∧ w'.output = w.output ∧ ∀ k, k < w.heap.size → k ≠ blk → w'.heap[k]? = w.heap[k]? := by
  have hlen : l.length ≤ 328 := by rw [← MV.tab_len]; exact MV.nodup_len l MV.tab hnd (fun t ht => (MV.mem_um.1 ((hm t).1 ht)).1)
  have hcmp : CmpLays Try.prog 66 #[.pointer (some ⟨bp, 0, none⟩)] tl3 3 cm3 blk 0 l.toArray.size w := fun _ _ _ _ x y => places_any x y bp bq _ ⟨(sortK_block h1 hp.p.lt).trans hp.p, (sortK_block h2 hp.q.lt).trans hp.q⟩
  have h := Try.slices_SortFunc_total (α := T3) 3 Try.isAgg42 Try.sizeOf42 tl3 (fun _ => rfl) (fun x v hv => by simp [tl3] at hv; rcases hv with rfl | rfl | rfl <;> rfl) cm3 swo_cm3 66 #[.pointer (some ⟨bp, 0, none⟩)] blk 0 cap l.toArray w enters_places hcmp (holds_m.2 hH) hblk (by simp; omega) tot_cm3
  rw [show l.toArray.size = l.length by simp] at h
  refine h.mono ?_
  rintro e w' ⟨rfl, n, os, hw⟩
  obtain ⟨l', hl'⟩ : ∃ l', l.mergeSort (fun x y => !ltOf cm3 y x) = l' := ⟨_, rfl⟩
  have e0 : (l.toArray.toList.mergeSort fun x y => !ltOf cm3 y x) = l' := by simpa using hl'
  rw [e0] at hw
  have hp' : l'.Perm l := by rw [← hl']; exact List.mergeSort_perm ..
  have hs : l'.Pairwise (fun x y => (!ltOf cm3 y x) = true) := by
    rw [← hl']
    refine List.pairwise_mergeSort (fun a b c h1 h2 => ?_) (fun a b => ?_) l
    · simp only [Bool.not_eq_true'] at *
      rw [Bool.eq_false_iff, ne_eq, lt_cm3] at *
      unfold lt3 at *; omega
    · simp only [Bool.or_eq_true, Bool.not_eq_true']
      rw [Bool.eq_false_iff, Bool.eq_false_iff, ne_eq, ne_eq, lt_cm3, lt_cm3]
      unfold lt3; omega
  have hn : l'.Nodup := hp'.nodup_iff.2 hnd
  have hmem : ∀ t, t ∈ l' ↔ t ∈ MV.um most := fun t => hp'.mem_iff.trans (hm t)
  have hq : l'.Pairwise (fun a b => MV.tz a < MV.tz b) := by
    have hs2 : l'.Pairwise (fun a b => a ∈ l' ∧ b ∈ l' ∧ (!ltOf cm3 b a) = true ∧ a ≠ b) := by
      refine List.Pairwise.imp_of_mem ?_ (hs.and hn)
      intro a b ha hb h
      exact ⟨ha, hb, h.1, h.2⟩
    refine hs2.imp ?_
    rintro a b ⟨ha, hb, h3, h4⟩
    simp only [Bool.not_eq_true'] at h3
    rw [Bool.eq_false_iff, ne_eq, lt_cm3] at h3
    have h5 : MV.tz a ≠ MV.tz b := fun e => h4 (pw_inj (MV.um_rises most) ((hmem a).1 ha) ((hmem b).1 hb) e)
    unfold lt3 at h3
    unfold MV.tz at *
    omega
  have hl : l' = MV.um most := MV.rise_eq hq (MV.um_rises most) hmem
  have hh : HoldsK tl3 3 w' blk 0 l'.toArray := by
    rw [hw]
    exact holdsK_sortWorldK_c tl3 3 w blk 0 l.toArray l'.toArray n os (holds_m.2 hH) hblk (by simpa using hp'.length_eq)
  rw [hl] at hh
  refine ⟨⟨_, rfl⟩, by rw [← hl]; exact hp'.length_eq.symm, fun j hj => (holds_m.1 hh j hj).1, ?_⟩
  rw [hw]
  exact ⟨sortK_size, rfl, rfl, rfl, fun k hk hne => sortK_block hne hk⟩

set_option maxHeartbeats 2000000 in
theorem byPlaces_any (bq : Nat) (w : World) : Calls Try.prog 50 #[.slice (some ⟨bq, 0, none⟩) 3 3] w fun e w' => e = .returned (.func (.func 66) #[] #[.pointer (some ⟨w.heap.size, 0, none⟩)]) ∧ w' = w.alloc (.cells #[.slice (some ⟨bq, 0, none⟩) 3 3] 26) := by
  go_enter Try.func50, Try.ntmps50
  go_wp2
  go_ret
  exact ⟨rfl, rfl⟩

/-- A row of triples, to read. -/
structure TR (B : Nat) (w : World) (v : Value) (l : List T3) : Prop where
  shape : ∃ (aa : Option Addr) (g cc : Nat), v = .slice aa l.length cc ∧ (0 < l.length → aa = some ⟨g, 0, none⟩ ∧ B ≤ g ∧ g < w.heap.size) ∧ ∀ j, j < l.length * 3 → w.cell? ⟨g, j, none⟩ = (tcl3 l)[j]?
theorem TR.below {B : Nat} {w w' : World} {v : Value} {l : List T3} (h : TR B w v l) (k : Below w.heap.size w w') : TR B w' v l := by
  obtain ⟨aa, g, cc, h1, h2, h3⟩ := h.shape
  refine ⟨aa, g, cc, h1, fun h => ⟨(h2 h).1, (h2 h).2.1, Nat.lt_of_lt_of_le (h2 h).2.2 k.size⟩, fun j hj => ?_⟩
  exact (k.cell (p := ⟨g, j, none⟩) (h2 (by omega)).2.2).trans (h3 j hj)
theorem TR.mono {B B' : Nat} {w : World} {v : Value} {l : List T3} (h : TR B w v l) (hB : B' ≤ B) : TR B' w v l := by
  obtain ⟨aa, g, cc, h1, h2, h3⟩ := h.shape
  exact ⟨aa, g, cc, h1, fun h => ⟨(h2 h).1, Nat.le_trans hB (h2 h).2.1, (h2 h).2.2⟩, h3⟩
theorem TR.set {B b o : Nat} {w : World} {v : Value} {l : List T3} (h : TR B w v l) (hb : b < B) (x : Value) : TR B (w.setCell ⟨b, o, none⟩ x) v l := by
  obtain ⟨aa, g, cc, h1, h2, h3⟩ := h.shape
  refine ⟨aa, g, cc, h1, fun h => ⟨(h2 h).1, (h2 h).2.1, by simpa using (h2 h).2.2⟩, fun j hj => ?_⟩
  have := (h2 (by omega)).2.1
  exact (World.cell?_of_block (Below.heap_setCell w ⟨b, o, none⟩ x g (by show g ≠ b; omega))).trans (h3 j hj)

abbrev S1m (bl : Nat) (v : Value) (W : World) : Prop := W.cell? ⟨bl, 0, none⟩ = some v

theorem SortM_any {bs bl bm bv bM most : Nat} {S : List T3} {rb : Option Nat} {w : World} (h : Mv bs bl bm bv bM most S rb w) (hm : ∀ t, t ∈ S ↔ t ∈ MV.um most) {aa : Option Addr} {cc bp bq : Nat} (l1 : Cl bl [.slice aa S.length cc] 36 w) (hp : Pc bp bq w) (h1 : rb ≠ some bp) (h2 : rb ≠ some bq) :
    Calls Try.prog 49 #[.slice aa S.length cc, .func (.func 66) #[] #[.pointer (some ⟨bp, 0, none⟩)]] w fun e w' => (∃ v, e = .returned v) ∧ TR (bl + 1) w' (.slice aa S.length cc) (MV.um most) ∧ Cl bl [.slice aa S.length cc] 36 w' ∧ ∀ B, B ≤ bl + 1 → Below B w w' := by
  obtain ⟨aa', cc', l1', l2, l3⟩ := h.l
  have e : aa' = aa ∧ cc' = cc := by
    unfold Cl at l1 l1'
    rw [l1] at l1'
    simp at l1'
    exact ⟨l1'.1.symm, l1'.2.symm⟩
  obtain ⟨rfl, rfl⟩ := e
  rcases l2.2 with ⟨e1, e2⟩ | ⟨g, cap, cur, e1, e2, e3, e4, e5, e6, e7⟩
  · have e0 : S = [] := List.eq_nil_of_length_eq_zero e2
    have hu : MV.um most = [] := by
      rw [List.eq_nil_iff_forall_not_mem]
      intro t ht
      have := (hm t).2 ht
      rw [e0] at this
      cases this
    subst e0
    refine (Try.slices_SortFunc_none (α := T3) aa' cc' _ w).mono ?_
    rintro e w' ⟨rfl, rfl⟩
    refine ⟨⟨_, rfl⟩, ⟨aa', 0, cc', by rw [hu], fun h => by rw [hu] at h; simp at h, fun j hj => by rw [hu] at hj; simp at hj⟩, l1, fun B _ => Below.refl _ _⟩
  · simp only [Value.slice.injEq] at e1
    obtain ⟨rfl, _, rfl⟩ := e1
    have hg : rb = some g := l3
    have hlt : g < w.heap.size := (Array.getElem?_eq_some_iff.1 e3).1
    have hH : ∀ j, j < S.length * 3 → w.cell? ⟨g, j, none⟩ = (tcl3 S)[j]? ∧ w.frozen? ⟨g, j, none⟩ = false := fun j hj => by
      refine ⟨?_, by simp [World.frozen?, e3]⟩
      have := l2.cellAt j hj
      exact this
    have hne : g ≠ bl := by omega
    refine (SortFunc_m most S g cc' bp bq w hH hlt h.vs.nd hm hp (fun e => h1 (by rw [hg, e])) (fun e => h2 (by rw [hg, e]))).mono ?_
    rintro e w' ⟨hv, q1, q2, q3, q4, q5, q6, q7⟩
    refine ⟨hv, ⟨some ⟨g, 0, none⟩, g, cc', by rw [q1], fun _ => ⟨rfl, e2, Nat.lt_of_lt_of_le hlt q3⟩, q2⟩, (q7 bl l1.lt (fun e => hne e.symm)).trans l1, fun B hB => ⟨q4, q5, q6, q3, fun k hk => ?_⟩⟩
    have := l1.lt
    exact q7 k (by omega) (by omega)

set_option maxRecDepth 100000 in
set_option maxHeartbeats 8000000 in
theorem markov_any (most : Nat) (w : World) (hmost : most ≤ 1000000000000000000) :
    Calls Try.prog 35 #[.int .i64 (most : Int)] w fun e w' => ∃ v, e = .returned v ∧ TR w.heap.size w' v (MV.um most) ∧ Below w.heap.size w w' := by
  have hmm := @run_makeMap Try.prog
  obtain ⟨N, hN⟩ : ∃ N, N = w.heap.size := ⟨_, rfl⟩
  obtain ⟨W5, hW5⟩ : ∃ W5, W5 = ((((w.alloc (.cells #[.int .i64 (most : Int)] 3)).alloc (.cells #[.slice none 0 0] 36)).alloc (.map #[] 0)).alloc (.cells #[.map (some (w.heap.size + 1 + 1))] 78)).alloc (.cells #[.func (.func 47) #[] #[.pointer (some ⟨w.heap.size + 1 + 1 + 1, 0, none⟩), .pointer (some ⟨w.heap.size + 1, 0, none⟩), .pointer (some ⟨w.heap.size, 0, none⟩), .pointer (some ⟨w.heap.size + 1 + 1 + 1 + 1, 0, none⟩)]] 79) := ⟨_, rfl⟩
  have M5 : Mv (w.heap.size + 1 + 1 + 1) (w.heap.size + 1) w.heap.size (w.heap.size + 1 + 1 + 1 + 1) (w.heap.size + 1 + 1) most [] none W5 := by
    have cn : ∀ (W : World) (l : List Value) (t : TypeId) (z : Nat), W.heap.size = z → Cl z l t (W.alloc (.cells l.toArray t)) := fun W l t z hz => by subst hz; exact Cl.new l t W
    rw [hW5]
    refine ⟨(cn _ [.map (some (w.heap.size + 1 + 1))] _ _ (by simp)).alloc _, ((((Cl.new [.int .i64 (most : Int)] _ w).alloc _).alloc _).alloc _).alloc _, cn _ [.func (.func 47) #[] (caps (w.heap.size + 1 + 1 + 1) (w.heap.size + 1) w.heap.size (w.heap.size + 1 + 1 + 1 + 1))] _ _ (by simp), ⟨.map [], 0, ?_, Nat.le_refl _, Hs3.start⟩, ⟨none, 0, (((cn _ [.slice none 0 0] _ _ (by simp)).alloc _).alloc _).alloc _, ⟨rfl, .inl ⟨rfl, rfl⟩⟩, rfl⟩, ⟨List.nodup_nil, fun t ht => by cases ht⟩⟩
    have := World.ownsMap_made ((w.alloc (.cells #[.int .i64 (most : Int)] 3)).alloc (.cells #[.slice none 0 0] 36)) Try.prog 42 (unitElem (H := Unit))
    rw [World.size_alloc, World.size_alloc] at this
    refine mmap_kept this (((Below.alloc (Below.alloc (Below.refl _ _) (Nat.le_refl _) _) (by simp) _)).block _ (by simp))
  have K5 : Below w.heap.size w W5 := by
    rw [hW5]
    refine Below.alloc (Below.alloc (Below.alloc (Below.alloc (Below.alloc (Below.refl _ _) ?_ _) ?_ _) ?_ _) ?_ _) ?_ _ <;> simp <;> omega
  have HM5 : Hid (Mv (w.heap.size + 1 + 1 + 1) (w.heap.size + 1) w.heap.size (w.heap.size + 1 + 1 + 1 + 1) (w.heap.size + 1 + 1) most [] none W5 ∧ Below w.heap.size w W5) := ⟨M5, K5⟩
  have HVi : Hid (1 ≤ most → Calls Try.prog 47 #[tv3 (1, 1, 1), .pointer (some ⟨w.heap.size + 1 + 1 + 1, 0, none⟩), .pointer (some ⟨w.heap.size + 1, 0, none⟩), .pointer (some ⟨w.heap.size, 0, none⟩), .pointer (some ⟨w.heap.size + 1 + 1 + 1 + 1, 0, none⟩)] W5 fun e w' => (∃ v, e = .returned v) ∧ ∃ (S' : List T3) (rb' : Option Nat), Mv (w.heap.size + 1 + 1 + 1) (w.heap.size + 1) w.heap.size (w.heap.size + 1 + 1 + 1 + 1) (w.heap.size + 1 + 1) most S' rb' w' ∧ (∀ t, t ∈ S' ↔ t ∈ MV.um most) ∧ Below w.heap.size w w') := fun h1 => by
    refine (vis_all (w.heap.size + 1 + 1 + 1) (w.heap.size + 1) w.heap.size (w.heap.size + 1 + 1 + 1 + 1) (w.heap.size + 1 + 1) most hmost 329 0 (by omega) [] (1, 1, 1) none W5 (Nat.zero_le _) M5 MV.one_in h1).mono ?_
    rintro e w' ⟨hv, S', rb', m', d', i', f', n'⟩
    refine ⟨hv, S', rb', m', d'.fin h1 i', ⟨f'.os.trans K5.os, f'.tape.trans K5.tape, f'.output.trans K5.output, Nat.le_trans K5.size f'.size, fun k hk => ?_⟩⟩
    exact (f'.block k (Nat.lt_of_lt_of_le hk K5.size) (by omega) (by omega) (by simp)).trans (K5.block k hk)
  have HZ : Hid (most < 1 → ∀ t, t ∈ ([] : List T3) ↔ t ∈ MV.um most) := fun h t => by
    obtain rfl : most = 0 := by omega
    rw [MV.um_zero]
  clear M5 K5 hmost hN N
  unfold tv3 at HVi
  go_enter Try.func35, Try.ntmps35
  by_cases h1 : 1 ≤ most
  · have t1 : decide (1 ≤ (most : Int)) = true := decide_eq_true (by omega)
    go_wp2_with fail
    rw [← hW5]
    refine (HVi.out h1).mono ?_
    rintro e w1 ⟨⟨v1, rfl⟩, S', rb', m1, u1, k1⟩
    clear hW5 HM5 HVi HZ
    obtain ⟨aa, cc, l1, l2, l3⟩ := m1.l
    have HM : Hid (Mv (w.heap.size + 1 + 1 + 1) (w.heap.size + 1) w.heap.size (w.heap.size + 1 + 1 + 1 + 1) (w.heap.size + 1 + 1) most S' rb' w1 ∧ (∀ t, t ∈ S' ↔ t ∈ MV.um most) ∧ Below w.heap.size w w1 ∧ Cl (w.heap.size + 1) [.slice aa S'.length cc] 36 w1) := ⟨m1, u1, k1, l1⟩
    have s0 : S1m (w.heap.size + 1) (.slice aa S'.length cc) w1 := l1.cell 0
    clear m1 u1 k1 l1 l2 l3
    go_wp2_with fail
    refine wp_region_G (S1m (w.heap.size + 1) (.slice aa S'.length cc)) 3 (by kernel_rfl) s0 (fun hHeld => ?_)
    refine wpAnyG_take (i := 0) (v := ?v0x1) rfl (by kernel_rfl) (fun _ _ _ h => h) (Or.inl ⟨by rfl, ?y0x1⟩) hHeld ?r0x1
    case y0x1 => (intro wS hSw; obtain s1 := hSw; go_simp; try with_reducible rfl)
    try simp only [Act.put, List.setIfInBounds_toArray, List.set_cons_zero, List.set_cons_succ]
    refine wpAnyG_one (i := 1) rfl (by kernel_rfl) (fun K hK => ?_)
    go_simp
    obtain ⟨W2, hW2⟩ : ∃ W2, W2 = (w1.alloc (.cells #[.int .i64 2, .int .i64 1, .int .i64 0] 3)).drew := ⟨_, rfl⟩
    have k2 : Below w1.heap.size w1 W2 := by rw [hW2]; exact Below.drew (Below.alloc (Below.refl _ _) (Nat.le_refl _) _)
    have C2 : Cl w1.heap.size [.int .i64 2, .int .i64 1, .int .i64 0] 3 W2 := by rw [hW2]; exact (Cl.new [.int .i64 2, .int .i64 1, .int .i64 0] _ w1).drew
    have M2 := HM.out.1.below k2
    have L2 := HM.out.2.2.2.below k2
    rw [← hW2]
    refine hK.out _ _ (L2.cell 0) ?_
    clear hK K
    try simp only [Act.put, List.setIfInBounds_toArray, List.set_cons_zero, List.set_cons_succ]
    clear hHeld hW2
    have hHeld : S1m (w.heap.size + 1) (.slice aa S'.length cc) W2 := L2.cell 0
    refine wpAnyG_one (i := 2) rfl (by kernel_rfl) (fun K hK => ?_)
    go_simp
    refine (byPlaces_any _ _).mono ?_
    rintro e W3 ⟨rfl, hW3⟩
    have k3 : Below W2.heap.size W2 W3 := by rw [hW3]; exact Below.alloc (Below.refl _ _) (Nat.le_refl _) _
    have P3 : Pc W2.heap.size w1.heap.size W3 := by rw [hW3]; exact ⟨Cl.new [.slice (some ⟨w1.heap.size, 0, none⟩) 3 3] _ W2, C2.alloc _⟩
    have M3 := M2.below k3
    have L3 := L2.below k3
    have hr1 : rb' ≠ some w1.heap.size := fun e => by have := (HM.out.1.row _ e).2; omega
    have hr2 : rb' ≠ some W2.heap.size := fun e => by have := (M2.row _ e).2; omega
    have K3 : Below w.heap.size w W3 := (HM.out.2.2.1.trans (k2.mono HM.out.2.2.1.size)).trans (k3.mono (Nat.le_trans HM.out.2.2.1.size k2.size))
    clear hW3
    refine hK.out _ _ (L3.cell 0) ?_
    clear hK K
    try simp only [Act.put, List.setIfInBounds_toArray, List.set_cons_zero, List.set_cons_succ]
    clear hHeld
    have hHeld : S1m (w.heap.size + 1) (.slice aa S'.length cc) W3 := L3.cell 0
    refine wpAnyG_last (i := 3) rfl (by kernel_rfl) (by kernel_rfl) (fun K hK => ?_)
    go_simp
    refine (SortM_any M3 HM.out.2.1 L3 P3 hr2 hr1).mono ?_
    rintro e W4 ⟨⟨v4, rfl⟩, r4, c4, k4⟩
    have HE : Hid (TR w.heap.size W4 (.slice aa S'.length cc) (MV.um most) ∧ Below w.heap.size w W4) := ⟨r4.mono (by omega), K3.trans (k4 _ (by omega))⟩
    have d4 : W4.cell? ⟨w.heap.size + 1, 0, none⟩ = some (.slice aa S'.length cc) := c4.cell 0
    refine hK.out _ _ ?_
    clear hK K
    try simp only [Act.put, List.setIfInBounds_toArray, List.set_cons_zero, List.set_cons_succ]
    refine wpAnyG_done (by kernel_rfl) ?_ _
    clear hHeld
    go_wp2_with fail
    go_ret
    exact ⟨_, rfl, HE.out⟩
  · have t1 : decide (1 ≤ (most : Int)) = false := decide_eq_false (by omega)
    go_wp2
    rw [← hW5]
    obtain ⟨w1, hw1⟩ : ∃ w1, w1 = W5 := ⟨_, rfl⟩
    obtain ⟨S', hS'⟩ : ∃ S', S' = ([] : List T3) := ⟨_, rfl⟩
    obtain ⟨rb', hrb'⟩ : ∃ S', S' = (none : Option Nat) := ⟨_, rfl⟩
    have u1 := HZ.out (by omega)
    obtain ⟨m1, k1⟩ := HM5.out
    rw [← hw1, ← hS', ← hrb'] at m1
    rw [← hw1] at k1
    rw [← hS'] at u1
    rw [← hw1]
    clear hW5 HM5 HVi HZ hw1 hS' hrb'
    obtain ⟨aa, cc, l1, l2, l3⟩ := m1.l
    have HM : Hid (Mv (w.heap.size + 1 + 1 + 1) (w.heap.size + 1) w.heap.size (w.heap.size + 1 + 1 + 1 + 1) (w.heap.size + 1 + 1) most S' rb' w1 ∧ (∀ t, t ∈ S' ↔ t ∈ MV.um most) ∧ Below w.heap.size w w1 ∧ Cl (w.heap.size + 1) [.slice aa S'.length cc] 36 w1) := ⟨m1, u1, k1, l1⟩
    have s0 : S1m (w.heap.size + 1) (.slice aa S'.length cc) w1 := l1.cell 0
    clear m1 u1 k1 l1 l2 l3
    go_wp2_with fail
    refine wp_region_G (S1m (w.heap.size + 1) (.slice aa S'.length cc)) 3 (by kernel_rfl) s0 (fun hHeld => ?_)
    refine wpAnyG_take (i := 0) (v := ?v0x2) rfl (by kernel_rfl) (fun _ _ _ h => h) (Or.inl ⟨by rfl, ?y0x2⟩) hHeld ?r0x2
    case y0x2 => (intro wS hSw; obtain s1 := hSw; go_simp; try with_reducible rfl)
    try simp only [Act.put, List.setIfInBounds_toArray, List.set_cons_zero, List.set_cons_succ]
    refine wpAnyG_one (i := 1) rfl (by kernel_rfl) (fun K hK => ?_)
    go_simp
    obtain ⟨W2, hW2⟩ : ∃ W2, W2 = (w1.alloc (.cells #[.int .i64 2, .int .i64 1, .int .i64 0] 3)).drew := ⟨_, rfl⟩
    have k2 : Below w1.heap.size w1 W2 := by rw [hW2]; exact Below.drew (Below.alloc (Below.refl _ _) (Nat.le_refl _) _)
    have C2 : Cl w1.heap.size [.int .i64 2, .int .i64 1, .int .i64 0] 3 W2 := by rw [hW2]; exact (Cl.new [.int .i64 2, .int .i64 1, .int .i64 0] _ w1).drew
    have M2 := HM.out.1.below k2
    have L2 := HM.out.2.2.2.below k2
    rw [← hW2]
    refine hK.out _ _ (L2.cell 0) ?_
    clear hK K
    try simp only [Act.put, List.setIfInBounds_toArray, List.set_cons_zero, List.set_cons_succ]
    clear hHeld hW2
    have hHeld : S1m (w.heap.size + 1) (.slice aa S'.length cc) W2 := L2.cell 0
    refine wpAnyG_one (i := 2) rfl (by kernel_rfl) (fun K hK => ?_)
    go_simp
    refine (byPlaces_any _ _).mono ?_
    rintro e W3 ⟨rfl, hW3⟩
    have k3 : Below W2.heap.size W2 W3 := by rw [hW3]; exact Below.alloc (Below.refl _ _) (Nat.le_refl _) _
    have P3 : Pc W2.heap.size w1.heap.size W3 := by rw [hW3]; exact ⟨Cl.new [.slice (some ⟨w1.heap.size, 0, none⟩) 3 3] _ W2, C2.alloc _⟩
    have M3 := M2.below k3
    have L3 := L2.below k3
    have hr1 : rb' ≠ some w1.heap.size := fun e => by have := (HM.out.1.row _ e).2; omega
    have hr2 : rb' ≠ some W2.heap.size := fun e => by have := (M2.row _ e).2; omega
    have K3 : Below w.heap.size w W3 := (HM.out.2.2.1.trans (k2.mono HM.out.2.2.1.size)).trans (k3.mono (Nat.le_trans HM.out.2.2.1.size k2.size))
    clear hW3
    refine hK.out _ _ (L3.cell 0) ?_
    clear hK K
    try simp only [Act.put, List.setIfInBounds_toArray, List.set_cons_zero, List.set_cons_succ]
    clear hHeld
    have hHeld : S1m (w.heap.size + 1) (.slice aa S'.length cc) W3 := L3.cell 0
    refine wpAnyG_last (i := 3) rfl (by kernel_rfl) (by kernel_rfl) (fun K hK => ?_)
    go_simp
    refine (SortM_any M3 HM.out.2.1 L3 P3 hr2 hr1).mono ?_
    rintro e W4 ⟨⟨v4, rfl⟩, r4, c4, k4⟩
    have HE : Hid (TR w.heap.size W4 (.slice aa S'.length cc) (MV.um most) ∧ Below w.heap.size w W4) := ⟨r4.mono (by omega), K3.trans (k4 _ (by omega))⟩
    have d4 : W4.cell? ⟨w.heap.size + 1, 0, none⟩ = some (.slice aa S'.length cc) := c4.cell 0
    refine hK.out _ _ ?_
    clear hK K
    try simp only [Act.put, List.setIfInBounds_toArray, List.set_cons_zero, List.set_cons_succ]
    refine wpAnyG_done (by kernel_rfl) ?_ _
    clear hHeld
    go_wp2_with fail
    go_ret
    exact ⟨_, rfl, HE.out⟩

end Go.Proofs.Ytcbepaionliepaa
