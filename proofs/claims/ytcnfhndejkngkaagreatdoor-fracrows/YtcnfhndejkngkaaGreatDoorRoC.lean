import Derived.Test.YtcnfhndejkngkaaGreatDoorJpP
import Derived.Test.YtcnfhndejkngkaaGreatDoorJpU
import Derived.Test.YtcnfhndejkngkaaGreatDoorJpO
import Derived.Test.YtcnfhndejkngkaaGreatDoorJpY
import Derived.Test.YtcnfhndejkngkaaGreatDoorJpE
set_option linter.unusedSimpArgs false
set_option linter.unusedVariables false
set_option maxRecDepth 100000
namespace Go.Proofs.YtcnfhndejkngkaaGreatDoor
open Go.RowKit
theorem Tryz.infoFr : (Tryz.prog.info? 23).map (fun i => (i.zero, i.size, i.bytes)) = some (some (.agg #[.int .i64 0, .int .i64 0]), 2, 16) := by kernel_rfl
def pvI (L : List (Nat × Nat)) : List Value := pvals (L.map fun x => ((x.1 : Int), (x.2 : Int)))
theorem pvI_app (a b : List (Nat × Nat)) : pvI (a ++ b) = pvI a ++ pvI b := by unfold pvI; rw [List.map_append, pvals_append]
theorem pvI_at (L : List (Nat × Nat)) (i : Nat) (h : i < L.length) : (pvI L)[i * 2]? = some (.int .i64 ((L.getD i (0, 0)).1 : Int)) ∧ (pvI L)[i * 2 + 1]? = some (.int .i64 ((L.getD i (0, 0)).2 : Int)) := by
  have h1 := pvals_at (L.map fun x => ((x.1 : Int), (x.2 : Int))) i (by rw [List.length_map]; exact h)
  have e : (L.map fun x => ((x.1 : Int), (x.2 : Int))).getD i (0, 0) = (((L.getD i (0, 0)).1 : Int), ((L.getD i (0, 0)).2 : Int)) := by
    rw [List.getD_eq_getElem?_getD, List.getElem?_map, List.getD_eq_getElem?_getD, List.getElem?_eq_getElem h]
    rfl
  rw [e] at h1
  exact h1
structure Fw (L : List (Nat × Nat)) (n g : Nat) (w : World) : Prop where
  len : n = L.length
  lt : g < w.heap.size
  c0 : ∀ i, i < n → w.cell? ⟨g, i * 2, none⟩ = some (.int .i64 ((L.getD i (0, 0)).1 : Int))
  c1 : ∀ i, i < n → w.cell? ⟨g, i * 2 + 1, none⟩ = some (.int .i64 ((L.getD i (0, 0)).2 : Int))
theorem Fw.below {L : List (Nat × Nat)} {n g : Nat} {w w' : World} (h : Fw L n g w) (k : Below w.heap.size w w') : Fw L n g w' :=
  ⟨h.len, Nat.lt_of_lt_of_le h.lt k.size, fun i hi => (k.cell (p := ⟨g, i * 2, none⟩) h.lt).trans (h.c0 i hi), fun i hi => (k.cell (p := ⟨g, i * 2 + 1, none⟩) h.lt).trans (h.c1 i hi)⟩
theorem Fw.of {L : List (Nat × Nat)} {n B : Nat} {v : Value} {w : World} (hn : n = L.length) (h : w.ownsRow B 23 2 v n (pvI L)) (h0 : 0 < n) : ∃ g c, v = .slice (some ⟨g, 0, none⟩) n c ∧ Fw L n g w ∧ n ≤ c := by
  obtain ⟨m, rfl⟩ : ∃ m, n = m + 1 := ⟨n - 1, by omega⟩
  obtain ⟨g, c, rfl⟩ := ownsRow_succ h
  refine ⟨g, c, rfl, ⟨hn, (h.lt g rfl).2, fun i hi => ?_, fun i hi => ?_⟩, ?_⟩
  · rw [h.cellAt (i * 2) (by omega)]; exact (pvI_at L i (by omega)).1
  · rw [h.cellAt (i * 2 + 1) (by omega)]; exact (pvI_at L i (by omega)).2
  · rcases h.2 with ⟨h1, _⟩ | ⟨g', c', cur, h1, _, _, h2, _⟩
    · cases h1
    · cases h1; exact h2
theorem Sv.grown {b : Nat} {c d : Int} {w w' : World} {row : Option Nat} (h : Sv b c d w) (hg : w.grownBy w' row) (hne : row ≠ some b) : Sv b c d w' := by
  have e : w'.heap[b]? = w.heap[b]? := hg.block b h.lt (fun e => hne e.symm)
  exact ⟨(World.cell?_of_block e).trans h.c0, (World.cell?_of_block e).trans h.c1, (World.frozen?_of_block e).trans h.f0, (World.frozen?_of_block e).trans h.f1, Nat.lt_of_lt_of_le h.lt hg.size⟩
theorem FR.wdl_len (d : Nat) : ∀ (l : List (Nat × Nat)) (p : Nat × Nat), (FR.wdl d p l).length ≤ 2 * l.length
  | [], _ => by simp [FR.wdl]
  | q :: l, p => by
    have ih := FR.wdl_len d l q
    show ((if p.2 + q.2 = d then [(p.1 + q.1, p.2 + q.2)] else []) ++ q :: FR.wdl d q l).length ≤ _
    rw [List.length_append, List.length_cons, List.length_cons]
    split
    · simp only [List.length_singleton]; omega
    · simp only [List.length_nil]; omega
set_option maxHeartbeats 4000000 in
theorem withDown_any (L : List (Nat × Nat)) (d n g c : Nat) (w : World) (h : Fw L n g w) (hc : n ≤ c) (h2 : 2 ≤ n) (h1000 : n ≤ 1000) (hs : ∀ x ∈ L, x.1 ≤ 100 ∧ x.2 ≤ 100) (hd : d ≤ 100) :
    Calls Tryz.prog 70 #[.slice (some ⟨g, 0, none⟩) n c, .int .i64 (d : Int)] w fun e w' => ∃ v, e = .returned v ∧ w'.ownsRow w.heap.size 23 2 v (FR.wd L d).length (pvI (FR.wd L d)) ∧ Below w.heap.size w w' := by
  obtain ⟨i0, hi, hz0, hz1, hz2⟩ := info_parts Tryz.infoFr
  have HI : Hid (Tryz.prog.info? 23 = some i0 ∧ i0.zero = some (.agg #[.int .i64 0, .int .i64 0]) ∧ i0.size = 2 ∧ i0.bytes = 16) := ⟨hi, hz0, hz1, hz2⟩
  clear hi hz0 hz1 hz2
  obtain ⟨p0, T, rfl⟩ : ∃ p T, L = p :: T := by
    cases L with
    | nil => have := h.len; simp at this; omega
    | cons p T => exact ⟨p, T, rfl⟩
  obtain ⟨M, rfl⟩ : ∃ M, n = M + 1 := ⟨n - 1, by omega⟩
  obtain ⟨cm, rfl⟩ : ∃ k, c = k + 1 := ⟨c - 1, by omega⟩
  have hM : M = T.length := by have := h.len; simpa using this
  have HF : Hid (Fw (p0 :: T) (M + 1) g w ∧ M = T.length ∧ (∀ x ∈ p0 :: T, x.1 ≤ 100 ∧ x.2 ≤ 100)) := ⟨h, hM, hs⟩
  obtain ⟨a0, b0⟩ := p0
  have q0 : w.cell? ⟨g, 0, none⟩ = some (.int .i64 (a0 : Int)) := by have := h.c0 0 (by omega); simpa using this
  have q1 : w.cell? ⟨g, 1, none⟩ = some (.int .i64 (b0 : Int)) := by have := h.c1 0 (by omega); simpa using this
  have q2 := h.lt
  obtain ⟨n, hn⟩ : ∃ n, n = M + 1 := ⟨_, rfl⟩
  obtain ⟨c, hcc⟩ : ∃ c, c = cm + 1 := ⟨_, rfl⟩
  have en : (n : Int) - 1 = (M : Int) := by omega
  have x1 : (1 : Int) ≤ (n : Int) := by omega
  have x2 : (n : Int) ≤ (c : Int) := by omega
  have x0 : (0 : Int) < (n : Int) := by omega
  rw [← hn, ← hcc]
  have HNn : Hid (n = M + 1 ∧ c = cm + 1) := ⟨hn, hcc⟩
  have hM1000 : M ≤ 1000 := by omega
  clear h hs hM hn hcc
  go_enter Tryz.func70, Tryz.ntmps70
  obtain ⟨W0, hW0⟩ : ∃ W, W = w.alloc (.cells #[.int .i64 (a0 : Int), .int .i64 (b0 : Int)] 23) := ⟨_, rfl⟩
  have HS : Hid (W0.ownsRow w.heap.size 23 2 (.slice (some ⟨w.heap.size, 0, none⟩) 1 1) 1 (pvI ((a0, b0) :: FR.wdl d (a0, b0) (T.take 0))) ∧ Below w.heap.size w W0) := by
    show _ ∧ _
    rw [hW0]
    exact ⟨⟨rfl, .inr ⟨w.heap.size, 1, #[.int .i64 (a0 : Int), .int .i64 (b0 : Int)], rfl, Nat.le_refl _, Cl.new [.int .i64 (a0 : Int), .int .i64 (b0 : Int)] 23 w, by omega, by unfold maxLen; omega, rfl, rfl⟩⟩, (Below.refl _ _).alloc (Nat.le_refl _) _⟩
  go_wp2
  rw [← hW0]
  clear hW0 q0 q1
  go_loopg [5, 16] M (fun gk lv iv wx => ∃ (i : Nat) (a : Option Addr) (k c' : Nat), lv = .slice a k c' ∧ iv = .int .i64 (i : Int) ∧ Hid (gk = M - i ∧ i ≤ M ∧ k = ((a0, b0) :: FR.wdl d (a0, b0) (T.take i)).length ∧ wx.ownsRow w.heap.size 23 2 (.slice a k c') k (pvI ((a0, b0) :: FR.wdl d (a0, b0) (T.take i))) ∧ Below w.heap.size w wx))
  case atStart => exact ⟨0, _, 1, 1, rfl, rfl, by omega, by omega, rfl, HS.out⟩
  case round =>
    clear HS
    obtain ⟨i, a, k, c', rfl, rfl, HR⟩ := hrel
    obtain ⟨h1, hiM, h3, h4, h5⟩ := HR.out
    have HG : Hid (gk = M - i) := h1
    have HK : Hid (k = ((a0, b0) :: FR.wdl d (a0, b0) (T.take i)).length ∧ wr.ownsRow w.heap.size 23 2 (.slice a k c') k (pvI ((a0, b0) :: FR.wdl d (a0, b0) (T.take i))) ∧ Below w.heap.size w wr) := ⟨h3, h4, h5⟩
    have hk : k ≤ 2001 := by
      have h6 := FR.wdl_len d (T.take i) (a0, b0)
      have h7 := List.length_take_le i T
      rw [h3, List.length_cons]
      omega
    clear HR h1 h3 h4 h5
    by_cases hi : i < M
    · have ti : decide ((i : Int) < (M : Int)) = true := decide_eq_true (by omega)
      have xi : (i : Int) < (M : Int) := by omega
      have xin : (i : Int) < (n : Int) := by have := HNn.out.1; omega
      have hfw := HF.out.1.below (HK.out.2.2)
      have hiT : i < T.length := by rw [← HF.out.2.1]; exact hi
      have eT : ((a0, b0) :: T).getD (i + 1) (0, 0) = T.getD i (0, 0) := rfl
      have c0 := hfw.c0 i (by omega)
      have c1 := hfw.c1 i (by omega)
      have c2 := hfw.c0 (i + 1) (by omega)
      have c3 := hfw.c1 (i + 1) (by omega)
      rw [eT] at c2 c3
      have hgl := hfw.lt
      obtain ⟨⟨u0, v0⟩, hp⟩ : ∃ p, p = ((a0, b0) :: T).getD i (0, 0) := ⟨_, rfl⟩
      obtain ⟨⟨x1, y1⟩, hy⟩ : ∃ p, p = T.getD i (0, 0) := ⟨_, rfl⟩
      have hstep := FR.wdl_take d T (a0, b0) i hiT
      rw [← hp, ← hy] at hstep
      rw [← hp] at c0 c1
      rw [← hy] at c2 c3
      have hb1 : u0 ≤ 100 ∧ v0 ≤ 100 := by
        have := HF.out.2.2 (((a0, b0) :: T).getD i (0, 0)) (by
          rw [List.getD_eq_getElem?_getD, List.getElem?_eq_getElem (show i < ((a0, b0) :: T).length by simp; omega)]
          exact List.getElem_mem _)
        rw [← hp] at this
        exact this
      have hb2 : x1 ≤ 100 ∧ y1 ≤ 100 := by
        have := HF.out.2.2 (T.getD i (0, 0)) (by
          rw [List.getD_eq_getElem?_getD, List.getElem?_eq_getElem hiT]
          exact List.mem_cons_of_mem _ (List.getElem_mem _))
        rw [← hy] at this
        exact this
      have q0 : wr.cell? ⟨g, i * 2, none⟩ = some (.int .i64 (u0 : Int)) := c0
      have q1 : wr.cell? ⟨g, i * 2 + 1, none⟩ = some (.int .i64 (v0 : Int)) := c1
      have q3 : wr.cell? ⟨g, 2 + i * 2, none⟩ = some (.int .i64 (x1 : Int)) := by rw [show 2 + i * 2 = (i + 1) * 2 by omega]; exact c2
      have q4 : wr.cell? ⟨g, 2 + i * 2 + 1, none⟩ = some (.int .i64 (y1 : Int)) := by rw [show 2 + i * 2 + 1 = (i + 1) * 2 + 1 by omega]; exact c3
      obtain ⟨b7, hb7⟩ : ∃ b, b = wr.heap.size := ⟨_, rfl⟩
      obtain ⟨W1, hW1⟩ : ∃ W, W = wr.alloc (.cells #[.int .i64 (x1 : Int), .int .i64 (y1 : Int)] 23) := ⟨_, rfl⟩
      have k1 : Below wr.heap.size wr W1 := by rw [hW1]; exact (Below.refl _ _).alloc (Nat.le_refl _) _
      have K1 : Hid (W1.ownsRow w.heap.size 23 2 (.slice a k c') k (pvI ((a0, b0) :: FR.wdl d (a0, b0) (T.take i))) ∧ Below w.heap.size w W1 ∧ Sv b7 x1 y1 W1 ∧ (W1.cell? ⟨g, i * 2, none⟩ = some (.int .i64 (u0 : Int)) ∧ W1.cell? ⟨g, i * 2 + 1, none⟩ = some (.int .i64 (v0 : Int))) ∧ g < W1.heap.size) :=
        ⟨own_belF HK.out.2.1 k1, HK.out.2.2.trans (k1.mono HK.out.2.2.size), by rw [hW1, hb7]; exact Sv.newT _ _ _ _, ⟨(k1.cell (p := ⟨g, i * 2, none⟩) hgl).trans q0, (k1.cell (p := ⟨g, i * 2 + 1, none⟩) hgl).trans q1⟩, Nat.lt_of_lt_of_le hgl k1.size⟩
      have HSt : Hid (FR.wdl d (a0, b0) (T.take (i + 1)) = FR.wdl d (a0, b0) (T.take i) ++ ((if v0 + y1 = d then [(u0 + x1, v0 + y1)] else []) ++ [(x1, y1)]) ∧ k = ((a0, b0) :: FR.wdl d (a0, b0) (T.take i)).length) := ⟨hstep, HK.out.1⟩
      have HTg : Hid (∀ W, Calls Tryz.prog 80 #[.agg #[.int .i64 (u0 : Int), .int .i64 (v0 : Int)], .agg #[.int .i64 (x1 : Int), .int .i64 (y1 : Int)]] W fun e w' => e = .returned (.agg #[.int .i64 ((u0 + x1 : Nat) : Int), .int .i64 ((v0 + y1 : Nat) : Int)]) ∧ Below W.heap.size W w') := fun W => together_any u0 v0 x1 y1 W (by omega) (by omega)
      have hnb7 : Hid (∀ j, (Value.slice a k c').ownBlock = some j → j < b7) := fun j hj => by rw [hb7]; exact (HK.out.2.1.lt j hj).2
      clear c0 c1 c2 c3 hp hy eT hstep hfw k1 HK
      go_wp2
      rw [← hW1]
      simp only [← hb7]
      clear hW1 hb7 q0 q1 q3 q4 hgl
      have HR1 : Hid (∀ W, Below W1.heap.size W1 W → (W.cell? ⟨g, i * 2, none⟩ = some (.int .i64 (u0 : Int)) ∧ W.cell? ⟨g, i * 2 + 1, none⟩ = some (.int .i64 (v0 : Int))) ∧ W.cell? ⟨b7, 0, none⟩ = some (.int .i64 (x1 : Int)) ∧ W.cell? ⟨b7, 1, none⟩ = some (.int .i64 (y1 : Int))) := fun W kk => by
        have h6 := K1.out.2.2.1.below kk
        exact ⟨⟨(kk.cell (p := ⟨g, i * 2, none⟩) K1.out.2.2.2.2).trans K1.out.2.2.2.1.1, (kk.cell (p := ⟨g, i * 2 + 1, none⟩) K1.out.2.2.2.2).trans K1.out.2.2.2.1.2⟩, h6.c0, h6.c1⟩
      refine wp_region_G (fun W => (W.cell? ⟨g, i * 2, none⟩ = some (.int .i64 (u0 : Int)) ∧ W.cell? ⟨g, i * 2 + 1, none⟩ = some (.int .i64 (v0 : Int))) ∧ W.cell? ⟨b7, 0, none⟩ = some (.int .i64 (x1 : Int)) ∧ W.cell? ⟨b7, 1, none⟩ = some (.int .i64 (y1 : Int))) 7 (by kernel_rfl) (HR1.out _ (Below.refl _ _).drew) (fun hHeld => ?_)
      refine wpAnyG_take (i := 0) (v := ?v0x1) rfl (by kernel_rfl) (fun _ _ _ h => h) (Or.inl ⟨by rfl, ?y0x1⟩) hHeld ?r0x1
      case y0x1 => (intro wS hSw; obtain ⟨⟨s1, s2⟩, s3, s4⟩ := hSw; go_simp; try with_reducible rfl)
      try simp only [Act.put, List.setIfInBounds_toArray, List.set_cons_zero, List.set_cons_succ]
      refine wpAnyG_take (i := 1) (v := ?v1x2) rfl (by kernel_rfl) (fun _ _ _ h => h) (Or.inl ⟨by rfl, ?y1x2⟩) hHeld ?r1x2
      case y1x2 => (intro wS hSw; obtain ⟨⟨s1, s2⟩, s3, s4⟩ := hSw; go_simp; try with_reducible rfl)
      try simp only [Act.put, List.setIfInBounds_toArray, List.set_cons_zero, List.set_cons_succ]
      refine wpAnyG_take (i := 2) (v := ?v2x3) rfl (by kernel_rfl) (fun _ _ _ h => h) (Or.inl ⟨by rfl, ?y2x3⟩) hHeld ?r2x3
      case y2x3 => (intro wS hSw; obtain ⟨⟨s1, s2⟩, s3, s4⟩ := hSw; go_simp; try with_reducible rfl)
      try simp only [Act.put, List.setIfInBounds_toArray, List.set_cons_zero, List.set_cons_succ]
      refine wpAnyG_take (i := 3) (v := ?v3x4) rfl (by kernel_rfl) (fun _ _ _ h => h) (Or.inl ⟨by rfl, ?y3x4⟩) hHeld ?r3x4
      case y3x4 => (intro wS hSw; obtain ⟨⟨s1, s2⟩, s3, s4⟩ := hSw; go_simp; try with_reducible rfl)
      try simp only [Act.put, List.setIfInBounds_toArray, List.set_cons_zero, List.set_cons_succ]
      refine wpAnyG_take (i := 4) (v := ?v4x5) rfl (by kernel_rfl) (fun _ _ _ h => h) (Or.inl ⟨by rfl, ?y4x5⟩) hHeld ?r4x5
      case y4x5 => (intro wS hSw; obtain ⟨⟨s1, s2⟩, s3, s4⟩ := hSw; go_simp; try with_reducible rfl)
      try simp only [Act.put, List.setIfInBounds_toArray, List.set_cons_zero, List.set_cons_succ]
      obtain ⟨u, hu⟩ : ∃ u, u = u0 + x1 := ⟨_, rfl⟩
      obtain ⟨v, hv⟩ : ∃ v, v = v0 + y1 := ⟨_, rfl⟩
      rw [← hu, ← hv] at HTg
      rw [← hu, ← hv] at HSt
      have hvb : v ≤ 200 := by omega
      clear hu hv
      refine wpAnyG_two (i := 5) (j := 6) rfl rfl (by kernel_rfl) (fun K hK => ?_) (fun K hK => ?_)
      · go_simp
        refine (HTg.out _).mono ?_
        rintro e w2 ⟨rfl, k2⟩
        have HK2 : Hid (Below W1.heap.size W1 w2) := (Below.refl _ _).drew.trans k2
        refine hK.out _ _ (HR1.out _ HK2.out) ?_
        clear hK K hHeld k2
        have hHeld := HR1.out _ HK2.out
        refine wpAnyG_one (i := 6) rfl (by kernel_rfl) (fun K hK => ?_)
        go_simp
        obtain ⟨b8, hb8e⟩ : ∃ b, b = w2.heap.size := ⟨_, rfl⟩
        obtain ⟨w4, hw4⟩ : ∃ w4, w4 = w2.alloc (.cells #[.int .i64 0, .int .i64 0] 23) := ⟨_, rfl⟩
        have K4 : Hid (Below W1.heap.size W1 w4 ∧ Sv b8 0 0 w4) := by
          show _ ∧ _
          rw [hw4, hb8e]
          exact ⟨HK2.out.alloc HK2.out.size _, Sv.newT 0 0 w2 _⟩
        have hb8 : W1.heap.size ≤ b8 := by rw [hb8e]; exact HK2.out.size
        rw [← hw4]
        simp only [← hb8e]
        clear hw4 hb8e HK2
        refine hK.out _ _ (HR1.out _ K4.out.1) ?_
        clear hK K hHeld
        have hHeld := HR1.out _ K4.out.1
        have s0 := K4.out.2.c0
        have s1' := K4.out.2.c1
        have s2' := K4.out.2.f0
        have s3' := K4.out.2.f1
        refine wpAnyG_last (i := 7) rfl (by kernel_rfl) (by kernel_rfl) (fun K hK => ?_)
        go_simp
        refine hK.out _ _ ?_
        clear hK K
        refine wpAnyG_done (by kernel_rfl) ?_ _
        clear hHeld s0 s1' s2' s3'
        obtain ⟨WB, hWB⟩ : ∃ W, W = (w4.setCell ⟨b8, 0, none⟩ (.int .i64 (u : Int))).setCell ⟨b8, 1, none⟩ (.int .i64 (v : Int)) := ⟨_, rfl⟩
        have KB : Hid (WB.ownsRow w.heap.size 23 2 (.slice a k c') k (pvI ((a0, b0) :: FR.wdl d (a0, b0) (T.take i))) ∧ Below w.heap.size w WB ∧ Sv b8 u v WB ∧ Sv b7 x1 y1 WB) := by
          have h1 := K4.out.1
          have hz := K1.out.2.1.size
          have hW : Below W1.heap.size W1 WB := by
            rw [hWB]
            exact (h1.setCell hb8 _).setCell hb8 _
          refine ⟨own_belF K1.out.1 hW, K1.out.2.1.trans (hW.mono K1.out.2.1.size), by rw [hWB]; exact K4.out.2.set _ _, K1.out.2.2.1.below hW⟩
        rw [← hWB]
        clear hWB K4 hb8
        clear HTg HR1
        have HJ : Hid (∀ j, (Value.slice a k c').ownBlock = some j → j ≠ b7) := fun j hj => by
          have := hnb7.out j hj
          omega
        have p20 := KB.out.2.2.2.c0
        have p21 := KB.out.2.2.2.c1
        have p22 := KB.out.2.2.2.lt
        have p23 := KB.out.2.2.1.c0
        have p24 := KB.out.2.2.1.c1
        have p25 := KB.out.2.2.1.lt
        clear K1
        by_cases hvd : v = d
        · have tv : ((v : Int) == (d : Int)) = true := by rw [hvd]; exact beq_self_eq_true _
          have HL2 : Hid ((a0, b0) :: FR.wdl d (a0, b0) (T.take (i + 1)) = ((a0, b0) :: FR.wdl d (a0, b0) (T.take i)) ++ [(u, v)] ++ [(x1, y1)]) := by
            show _ = _
            rw [HSt.out.1, if_pos hvd]
            simp [List.append_assoc]
          clear hvd
          go_wp2_with (at_builtin; first | (refine wpList_append_own _ rfl _ _ 32 rfl w.heap.size 23 i0 (.agg #[.int .i64 0, .int .i64 0]) 2 16 Tryz.underlying32 HI.out.1 HI.out.2.1 HI.out.2.2.1 HI.out.2.2.2 rfl (by decide) (.slice a k c') k (pvI ((a0, b0) :: FR.wdl d (a0, b0) (T.take i))) rfl (KB.out.1.alloc _) ⟨WB.heap.size, 0, none⟩ 1 1 [.int .i64 (u : Int), .int .i64 (v : Int)] rfl rfl (own_news (Cl.new [.int .i64 (u : Int), .int .i64 (v : Int)] 23 WB)) (by simp [Value.oneCell']) (by simp only [maxLen]; omega) (by omega) (by have := KB.out.2.1.size; simp; omega) ?_; intro v' w6 hown' hgrow _; have HO6 : Hid (w6.ownsRow w.heap.size 23 2 v' (k + 1) (pvI (((a0, b0) :: FR.wdl d (a0, b0) (T.take i)) ++ [(u, v)])) ∧ Below w.heap.size w w6 ∧ Sv b7 x1 y1 w6) := ⟨by rw [pvI_app]; exact hown', (KB.out.2.1.alloc KB.out.2.1.size _).grown hgrow (by have := KB.out.2.1.size; simp; omega) (fun j hj => (KB.out.1.lt j hj).1), (KB.out.2.2.2.alloc _ _).grown hgrow (fun e => HJ.out _ e rfl)⟩; clear hown' hgrow p20 p21 p22 p23 p24 p25; have p20 := HO6.out.2.2.c0; have p21 := HO6.out.2.2.c1; have p22 := HO6.out.2.2.lt) | (refine wpList_append_own _ rfl _ _ 32 rfl w.heap.size 23 i0 (.agg #[.int .i64 0, .int .i64 0]) 2 16 Tryz.underlying32 HI.out.1 HI.out.2.1 HI.out.2.2.1 HI.out.2.2.2 rfl (by decide) v' (k + 1) (pvI (((a0, b0) :: FR.wdl d (a0, b0) (T.take i)) ++ [(u, v)])) rfl (HO6.out.1.alloc _) ⟨w6.heap.size, 0, none⟩ 1 1 [.int .i64 (x1 : Int), .int .i64 (y1 : Int)] rfl rfl (own_news (Cl.new [.int .i64 (x1 : Int), .int .i64 (y1 : Int)] 23 w6)) (by simp [Value.oneCell']) (by simp only [maxLen]; omega) (by omega) (by have := HO6.out.2.1.size; simp; omega) ?_; intro v2 w9 hown' hgrow _; have HO9 : Hid (w9.ownsRow w.heap.size 23 2 v2 (k + 1 + 1) (pvI (((a0, b0) :: FR.wdl d (a0, b0) (T.take i)) ++ [(u, v)] ++ [(x1, y1)])) ∧ Below w.heap.size w w9) := ⟨by rw [pvI_app _ [(x1, y1)]]; exact hown', (HO6.out.2.1.alloc HO6.out.2.1.size _).grown hgrow (by have := HO6.out.2.1.size; simp; omega) (fun j hj => (HO6.out.1.lt j hj).1)⟩; clear hown' hgrow))
          obtain ⟨g9, c9, rfl⟩ := ownsRow_succ HO9.out.1
          go_roundg (M - (i + 1))
          case rel => exact ⟨i + 1, _, k + 1 + 1, _, rfl, by go_num, rfl, by omega, by rw [HL2.out, List.length_append, List.length_append, ← HSt.out.2]; rfl, by rw [HL2.out]; exact HO9.out.1, HO9.out.2⟩
          case measure => have := HG.out; omega
        · have tv : ((v : Int) == (d : Int)) = false := by rw [beq_eq_false_iff_ne]; omega
          have HL2 : Hid ((a0, b0) :: FR.wdl d (a0, b0) (T.take (i + 1)) = ((a0, b0) :: FR.wdl d (a0, b0) (T.take i)) ++ [(x1, y1)]) := by
            show _ = _
            rw [HSt.out.1, if_neg hvd]
            simp
          go_wp2_with (at_builtin; refine wpList_append_own _ rfl _ _ 32 rfl w.heap.size 23 i0 (.agg #[.int .i64 0, .int .i64 0]) 2 16 Tryz.underlying32 HI.out.1 HI.out.2.1 HI.out.2.2.1 HI.out.2.2.2 rfl (by decide) (.slice a k c') k (pvI ((a0, b0) :: FR.wdl d (a0, b0) (T.take i))) rfl (KB.out.1.alloc _) ⟨WB.heap.size, 0, none⟩ 1 1 [.int .i64 (x1 : Int), .int .i64 (y1 : Int)] rfl rfl (own_news (Cl.new [.int .i64 (x1 : Int), .int .i64 (y1 : Int)] 23 WB)) (by simp [Value.oneCell']) (by simp only [maxLen]; omega) (by omega) (by have := KB.out.2.1.size; simp; omega) ?_; intro v2 w9 hown' hgrow _; have HO9 : Hid (w9.ownsRow w.heap.size 23 2 v2 (k + 1) (pvI (((a0, b0) :: FR.wdl d (a0, b0) (T.take i)) ++ [(x1, y1)])) ∧ Below w.heap.size w w9) := ⟨by rw [pvI_app _ [(x1, y1)]]; exact hown', (KB.out.2.1.alloc KB.out.2.1.size _).grown hgrow (by have := KB.out.2.1.size; simp; omega) (fun j hj => (KB.out.1.lt j hj).1)⟩; clear hown' hgrow)
          obtain ⟨g9, c9, rfl⟩ := ownsRow_succ HO9.out.1
          go_roundg (M - (i + 1))
          case rel => exact ⟨i + 1, _, k + 1, _, rfl, by go_num, rfl, by omega, by rw [HL2.out, List.length_append, ← HSt.out.2]; rfl, by rw [HL2.out]; exact HO9.out.1, HO9.out.2⟩
          case measure => have := HG.out; omega
      · go_simp
        obtain ⟨b8, hb8e⟩ : ∃ b, b = W1.heap.size := ⟨_, rfl⟩
        obtain ⟨w3, hw3⟩ : ∃ w3, w3 = (W1.alloc (.cells #[.int .i64 0, .int .i64 0] 23)).drew := ⟨_, rfl⟩
        have K3 : Hid (Below W1.heap.size W1 w3 ∧ Sv b8 0 0 w3) := by
          show _ ∧ _
          rw [hw3, hb8e]
          exact ⟨((Below.refl _ _).alloc (Nat.le_refl _) _).drew, (Sv.newT 0 0 W1 _).drew⟩
        have hb8 : W1.heap.size ≤ b8 := by omega
        rw [← hw3]
        simp only [← hb8e]
        clear hw3 hb8e
        refine hK.out _ _ (HR1.out _ K3.out.1) ?_
        clear hK K hHeld
        have hHeld := HR1.out _ K3.out.1
        refine wpAnyG_one (i := 5) rfl (by kernel_rfl) (fun K hK => ?_)
        go_simp
        refine (HTg.out _).mono ?_
        rintro e w4 ⟨rfl, k2⟩
        have K4 : Hid (Below W1.heap.size W1 w4 ∧ Sv b8 0 0 w4) := ⟨K3.out.1.trans (k2.mono K3.out.1.size), K3.out.2.below k2⟩
        clear K3 k2
        refine hK.out _ _ (HR1.out _ K4.out.1) ?_
        clear hK K hHeld
        have hHeld := HR1.out _ K4.out.1
        have s0 := K4.out.2.c0
        have s1' := K4.out.2.c1
        have s2' := K4.out.2.f0
        have s3' := K4.out.2.f1
        refine wpAnyG_last (i := 7) rfl (by kernel_rfl) (by kernel_rfl) (fun K hK => ?_)
        go_simp
        refine hK.out _ _ ?_
        clear hK K
        refine wpAnyG_done (by kernel_rfl) ?_ _
        clear hHeld s0 s1' s2' s3'
        obtain ⟨WB, hWB⟩ : ∃ W, W = (w4.setCell ⟨b8, 0, none⟩ (.int .i64 (u : Int))).setCell ⟨b8, 1, none⟩ (.int .i64 (v : Int)) := ⟨_, rfl⟩
        have KB : Hid (WB.ownsRow w.heap.size 23 2 (.slice a k c') k (pvI ((a0, b0) :: FR.wdl d (a0, b0) (T.take i))) ∧ Below w.heap.size w WB ∧ Sv b8 u v WB ∧ Sv b7 x1 y1 WB) := by
          have h1 := K4.out.1
          have hz := K1.out.2.1.size
          have hW : Below W1.heap.size W1 WB := by
            rw [hWB]
            exact (h1.setCell hb8 _).setCell hb8 _
          refine ⟨own_belF K1.out.1 hW, K1.out.2.1.trans (hW.mono K1.out.2.1.size), by rw [hWB]; exact K4.out.2.set _ _, K1.out.2.2.1.below hW⟩
        rw [← hWB]
        clear hWB K4 hb8
        clear HTg HR1
        have HJ : Hid (∀ j, (Value.slice a k c').ownBlock = some j → j ≠ b7) := fun j hj => by
          have := hnb7.out j hj
          omega
        have p20 := KB.out.2.2.2.c0
        have p21 := KB.out.2.2.2.c1
        have p22 := KB.out.2.2.2.lt
        have p23 := KB.out.2.2.1.c0
        have p24 := KB.out.2.2.1.c1
        have p25 := KB.out.2.2.1.lt
        clear K1
        by_cases hvd : v = d
        · have tv : ((v : Int) == (d : Int)) = true := by rw [hvd]; exact beq_self_eq_true _
          have HL2 : Hid ((a0, b0) :: FR.wdl d (a0, b0) (T.take (i + 1)) = ((a0, b0) :: FR.wdl d (a0, b0) (T.take i)) ++ [(u, v)] ++ [(x1, y1)]) := by
            show _ = _
            rw [HSt.out.1, if_pos hvd]
            simp [List.append_assoc]
          clear hvd
          go_wp2_with (at_builtin; first | (refine wpList_append_own _ rfl _ _ 32 rfl w.heap.size 23 i0 (.agg #[.int .i64 0, .int .i64 0]) 2 16 Tryz.underlying32 HI.out.1 HI.out.2.1 HI.out.2.2.1 HI.out.2.2.2 rfl (by decide) (.slice a k c') k (pvI ((a0, b0) :: FR.wdl d (a0, b0) (T.take i))) rfl (KB.out.1.alloc _) ⟨WB.heap.size, 0, none⟩ 1 1 [.int .i64 (u : Int), .int .i64 (v : Int)] rfl rfl (own_news (Cl.new [.int .i64 (u : Int), .int .i64 (v : Int)] 23 WB)) (by simp [Value.oneCell']) (by simp only [maxLen]; omega) (by omega) (by have := KB.out.2.1.size; simp; omega) ?_; intro v' w6 hown' hgrow _; have HO6 : Hid (w6.ownsRow w.heap.size 23 2 v' (k + 1) (pvI (((a0, b0) :: FR.wdl d (a0, b0) (T.take i)) ++ [(u, v)])) ∧ Below w.heap.size w w6 ∧ Sv b7 x1 y1 w6) := ⟨by rw [pvI_app]; exact hown', (KB.out.2.1.alloc KB.out.2.1.size _).grown hgrow (by have := KB.out.2.1.size; simp; omega) (fun j hj => (KB.out.1.lt j hj).1), (KB.out.2.2.2.alloc _ _).grown hgrow (fun e => HJ.out _ e rfl)⟩; clear hown' hgrow p20 p21 p22 p23 p24 p25; have p20 := HO6.out.2.2.c0; have p21 := HO6.out.2.2.c1; have p22 := HO6.out.2.2.lt) | (refine wpList_append_own _ rfl _ _ 32 rfl w.heap.size 23 i0 (.agg #[.int .i64 0, .int .i64 0]) 2 16 Tryz.underlying32 HI.out.1 HI.out.2.1 HI.out.2.2.1 HI.out.2.2.2 rfl (by decide) v' (k + 1) (pvI (((a0, b0) :: FR.wdl d (a0, b0) (T.take i)) ++ [(u, v)])) rfl (HO6.out.1.alloc _) ⟨w6.heap.size, 0, none⟩ 1 1 [.int .i64 (x1 : Int), .int .i64 (y1 : Int)] rfl rfl (own_news (Cl.new [.int .i64 (x1 : Int), .int .i64 (y1 : Int)] 23 w6)) (by simp [Value.oneCell']) (by simp only [maxLen]; omega) (by omega) (by have := HO6.out.2.1.size; simp; omega) ?_; intro v2 w9 hown' hgrow _; have HO9 : Hid (w9.ownsRow w.heap.size 23 2 v2 (k + 1 + 1) (pvI (((a0, b0) :: FR.wdl d (a0, b0) (T.take i)) ++ [(u, v)] ++ [(x1, y1)])) ∧ Below w.heap.size w w9) := ⟨by rw [pvI_app _ [(x1, y1)]]; exact hown', (HO6.out.2.1.alloc HO6.out.2.1.size _).grown hgrow (by have := HO6.out.2.1.size; simp; omega) (fun j hj => (HO6.out.1.lt j hj).1)⟩; clear hown' hgrow))
          obtain ⟨g9, c9, rfl⟩ := ownsRow_succ HO9.out.1
          go_roundg (M - (i + 1))
          case rel => exact ⟨i + 1, _, k + 1 + 1, _, rfl, by go_num, rfl, by omega, by rw [HL2.out, List.length_append, List.length_append, ← HSt.out.2]; rfl, by rw [HL2.out]; exact HO9.out.1, HO9.out.2⟩
          case measure => have := HG.out; omega
        · have tv : ((v : Int) == (d : Int)) = false := by rw [beq_eq_false_iff_ne]; omega
          have HL2 : Hid ((a0, b0) :: FR.wdl d (a0, b0) (T.take (i + 1)) = ((a0, b0) :: FR.wdl d (a0, b0) (T.take i)) ++ [(x1, y1)]) := by
            show _ = _
            rw [HSt.out.1, if_neg hvd]
            simp
          go_wp2_with (at_builtin; refine wpList_append_own _ rfl _ _ 32 rfl w.heap.size 23 i0 (.agg #[.int .i64 0, .int .i64 0]) 2 16 Tryz.underlying32 HI.out.1 HI.out.2.1 HI.out.2.2.1 HI.out.2.2.2 rfl (by decide) (.slice a k c') k (pvI ((a0, b0) :: FR.wdl d (a0, b0) (T.take i))) rfl (KB.out.1.alloc _) ⟨WB.heap.size, 0, none⟩ 1 1 [.int .i64 (x1 : Int), .int .i64 (y1 : Int)] rfl rfl (own_news (Cl.new [.int .i64 (x1 : Int), .int .i64 (y1 : Int)] 23 WB)) (by simp [Value.oneCell']) (by simp only [maxLen]; omega) (by omega) (by have := KB.out.2.1.size; simp; omega) ?_; intro v2 w9 hown' hgrow _; have HO9 : Hid (w9.ownsRow w.heap.size 23 2 v2 (k + 1) (pvI (((a0, b0) :: FR.wdl d (a0, b0) (T.take i)) ++ [(x1, y1)])) ∧ Below w.heap.size w w9) := ⟨by rw [pvI_app _ [(x1, y1)]]; exact hown', (KB.out.2.1.alloc KB.out.2.1.size _).grown hgrow (by have := KB.out.2.1.size; simp; omega) (fun j hj => (KB.out.1.lt j hj).1)⟩; clear hown' hgrow)
          obtain ⟨g9, c9, rfl⟩ := ownsRow_succ HO9.out.1
          go_roundg (M - (i + 1))
          case rel => exact ⟨i + 1, _, k + 1, _, rfl, by go_num, rfl, by omega, by rw [HL2.out, List.length_append, ← HSt.out.2]; rfl, by rw [HL2.out]; exact HO9.out.1, HO9.out.2⟩
          case measure => have := HG.out; omega
    · have ti : decide ((i : Int) < (M : Int)) = false := decide_eq_false (by omega)
      obtain rfl : i = M := by omega
      have hT : T.take i = T := by rw [HF.out.2.1, List.take_length]
      have HK2 := HK.out
      rw [hT] at HK2
      have HKf : Hid (k = (FR.wd ((a0, b0) :: T) d).length ∧ wr.ownsRow w.heap.size 23 2 (.slice a k c') k (pvI (FR.wd ((a0, b0) :: T) d)) ∧ Below w.heap.size w wr) := HK2
      clear HK HK2 hT
      go_wp2
      go_ret
      exact ⟨_, rfl, by rw [← HKf.out.1]; exact HKf.out.2.1, HKf.out.2.2⟩
end Go.Proofs.YtcnfhndejkngkaaGreatDoor
