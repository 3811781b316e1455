/- The program: cont.part, cycle, normAfter. -/
import Derived.Test.YtpgedkdaflgfoafGreatDoorCgB
set_option linter.unusedSimpArgs false
set_option linter.unusedVariables false
set_option maxRecDepth 100000
namespace Go.Proofs.YtpgedkdaflgfoafGreatDoor
open Go.RowKit
attribute [local go_sem] Oper.semAt_some

set_option maxHeartbeats 1000000 in
theorem part_any (d r p q : Nat) (w : World) :
    Calls Tryz.prog 77 #[sgv d r p q] w fun e w' => e = .returned (.func (.func 103) #[] #[.pointer (some ⟨w.heap.size, 0, none⟩)]) ∧ w' = w.alloc (.cells #[.int .i64 (d : Int), .int .i64 (r : Int), .int .i64 (p : Int), .int .i64 (q : Int)] 77) := by
  unfold sgv
  go_enter Tryz.func77, Tryz.ntmps77
  go_wp2
  go_ret
  exact ⟨rfl, rfl⟩

theorem normAfter_any (a : Option Addr) (n c : Nat) (w : World) (hn : n ≤ 1000000) :
    Calls Tryz.prog 45 #[.slice a n c] w fun e w' => e = .returned (.int .i64 (CfM.sgn n)) ∧ w' = w := by
  obtain ⟨m, hm⟩ : ∃ m : Nat, (n : Int) % 2 = (m : Int) := ⟨n % 2, by omega⟩
  by_cases h : n % 2 = 0
  · have hm0 : ((m : Int) == 0) = true := beq_iff_eq.2 (by omega)
    have e : CfM.sgn n = 1 := by unfold CfM.sgn; rw [if_pos h]
    rw [e]
    clear h
    go_enter Tryz.func45, Tryz.ntmps45
    go_wp2
    go_ret
    exact ⟨rfl, rfl⟩
  · have hm0 : ((m : Int) == 0) = false := beq_eq_false_iff_ne.2 (by omega)
    have e : CfM.sgn n = -1 := by unfold CfM.sgn; rw [if_neg h]
    rw [e]
    clear h
    go_enter Tryz.func45, Tryz.ntmps45
    go_wp2
    go_ret
    exact ⟨rfl, rfl⟩

/-- The two answers' boxes, empty; the list's box and its row; what was captured. -/
structure CS (h d r p q : Nat) (w : World) (pre : List Nat) (o : Option Nat) (W : World) : Prop where
  v : Cl (h + 1) [.slice none 0 0] 34 W
  f : Cl (h + 2) [.int .i64 0, .int .i64 0] 25 W
  l : ∃ a c, Cl (h + 3) [.slice a pre.length c] 34 W ∧ W.ownsRow (h + 7) 3 1 (.slice a pre.length c) pre.length (ints (nz pre)) ∧ ∀ g, (Value.slice a pre.length c).ownBlock = some g → o ≠ some g
  s : Cl (h + 4) (sgc d r p q) 77 W
  b : Below h w W
  o : ow (h + 5) o W
  n : pre.length ≤ 1000

theorem CS.step {h d r p q : Nat} {w : World} {pre : List Nat} {o o' : Option Nat} {W W' : World} (s : CS h d r p q w pre o W) (hg : W.grownBy W' o) (ho : o' = o ∨ ∃ g, o' = some g ∧ W.heap.size ≤ g) : CS h d r p q w pre o' W' := by
  obtain ⟨a, c, h1, h2, h3⟩ := s.l
  refine ⟨s.v.grown hg (s.o.ne (by omega)), s.f.grown hg (s.o.ne (by omega)), ⟨a, c, h1.grown hg (s.o.ne (by omega)), row_kept h2 (fun g e => hg.block g (h2.lt g e).2 (fun e2 => h3 g e e2.symm)), ?_⟩, s.s.grown hg (s.o.ne (by omega)), s.b.grown hg (by have := s.o.1; omega) (fun k e => by have := s.o.2 k e; omega), s.o.step hg ho, s.n⟩
  intro g e
  rcases ho with h4 | ⟨g2, h4, h5⟩
  · rw [h4]; exact h3 g e
  · rw [h4]; intro e2; cases e2; have := (h2.lt g e).2; omega

theorem Cl.put {b l : Nat} {c : List Value} {t : TypeId} {W : World} (h : Cl b c t W) (ob : Obj) (hl : b ≠ l) : Cl b c t (W.putObj l ob) := (World.putObj_heap_other hl).trans h

theorem CS.put {h d r p q : Nat} {w : World} {pre : List Nat} {o : Option Nat} {W : World} (s : CS h d r p q w pre o W) (ob : Obj) (k : Nat) (hk : k = h + 5 ∨ k = h + 6) : CS h d r p q w pre o (W.putObj k ob) := by
  obtain ⟨a, c, h1, h2, h3⟩ := s.l
  exact ⟨s.v.put ob (by omega), s.f.put ob (by omega), ⟨a, c, h1.put ob (by omega), row_kept h2 (fun g e => World.putObj_heap_other (by have := (h2.lt g e).1; omega)), h3⟩, s.s.put ob (by omega), s.b.grown (grownBy_putObj' W _ ob) (by have := s.o.1; omega) (fun k e => by cases e; omega), s.o.put ob, s.n⟩

theorem ownsRow_cap {w : World} {B e n c : Nat} {a : Option Addr} {xs : List Value} (h : w.ownsRow B e 1 (.slice a n c) n xs) : n ≤ c := by
  obtain ⟨_, ⟨h1, h2⟩ | ⟨g, cap, cur, h3, h4, h5, h6, h7, _⟩⟩ := h
  · omega
  · simp only [Value.slice.injEq] at h3
    obtain ⟨_, _, h8⟩ := h3
    omega

/-- What cycle answers. -/
def CyPost (r : Nat) (t : Nat → Nat × Nat) (N : Nat) (w : World) (e : Ending) (w' : World) : Prop :=
  Below w.heap.size w w' ∧ ((N ≤ 1000 ∧ ∃ a c, e = .returned (.tuple #[.slice a N c, .agg #[.int .i64 0, .int .i64 0]]) ∧ w'.ownsRow w.heap.size 3 1 (.slice a N c) N (ints (nz (kl r t N)))) ∨ (1000 < N ∧ e = .returned (.tuple #[.slice none 0 0, .agg #[.int .i64 9, .int .i64 0]])))

set_option maxHeartbeats 8000000 in
theorem cycle_any (d r p0 q0 N : Nat) (t : Nat → Nat × Nat) (hs : Sq d r p0 q0 t) (fin : Bool) (hN : 1 ≤ N) (hN2 : N ≤ 1001) (hf : fin = true → (t (N - 1)).2 = q0) (hne : ∀ i, i < N - 1 → (t i).2 ≠ q0) (hnf : fin = false → (t (N - 1)).2 ≠ q0) (hfN : fin = false → N = 1001) (w : World) :
    Calls Tryz.prog 43 #[sgv d r p0 q0] w (CyPost r t N w) := by
  obtain ⟨i0, hi, hz0, hz1, hz2⟩ := info_parts Tryz.infoInt
  have HI : Hid (Tryz.prog.info? 3 = some i0 ∧ i0.zero = some (.int .i64 0) ∧ i0.size = 1 ∧ i0.bytes = 8) := ⟨hi, hz0, hz1, hz2⟩
  have HPY := fun b n hn => part_yields d r p0 q0 b N t hs fin hN hf hne hnf n hn
  have HFN : Hid (fin = false → N = 1001) := hfN
  have HPart : Hid (∀ w, Calls Tryz.prog 77 #[.agg #[.int .i64 (d : Int), .int .i64 (r : Int), .int .i64 (p0 : Int), .int .i64 (q0 : Int)]] w fun e w' => e = .returned (.func (.func 103) #[] #[.pointer (some ⟨w.heap.size, 0, none⟩)]) ∧ w' = w.alloc (.cells #[.int .i64 (d : Int), .int .i64 (r : Int), .int .i64 (p0 : Int), .int .i64 (q0 : Int)] 77)) := fun w => part_any d r p0 q0 w
  clear hi hz0 hz1 hz2 hs hf hne hnf hfN
  unfold sgv
  refine (callsIn_wide (n := 6)).1 ?_
  refine callsIn_of_wp_marks Tryz.func43 rfl trivial ?_ rfl
  simp only [Tryz.ntmps43, List.size_toArray, List.length_cons, List.length_nil, Nat.reduceAdd, Nat.reduceSub, Array.replicate_succ, Array.replicate_zero, List.push_toArray, List.append_toArray, List.nil_append, List.cons_append]
  gi_wp2
  refine ⟨trivial, ?_⟩
  refine (callsIn_wide.2 (HPart.out _)).mono ?_
  rintro e w1 ⟨rfl, hw1⟩
  obtain ⟨W0, hW0⟩ : ∃ W0, W0 = ((((w.alloc (.cells #[.int .i64 (d : Int), .int .i64 (r : Int), .int .i64 (p0 : Int), .int .i64 (q0 : Int)] 77)).alloc (.cells #[.slice none 0 0] 34)).alloc (.cells #[.int .i64 0, .int .i64 0] 25)).alloc (.cells #[.slice none 0 0] 34)) := ⟨_, rfl⟩
  rw [← hW0] at hw1 ⊢
  have z0 : W0.heap.size = w.heap.size + 4 := by rw [hW0]; simp
  have z1 : w1.heap.size = w.heap.size + 5 := by rw [hw1, World.size_alloc, z0]
  have C0 : CS w.heap.size d r p0 q0 w [] none w1 := by
    have k0 : Below w.heap.size w W0 := by rw [hW0]; exact ((((Below.refl _ _).alloc (Nat.le_refl _) _).alloc (by simp) _).alloc (by simp; omega) _).alloc (by simp; omega) _
    have v0 : Cl (w.heap.size + 1) [.slice none 0 0] 34 W0 := by
      rw [hW0]
      have := ((Cl.new [.slice none 0 0] 34 (w.alloc (.cells #[.int .i64 (d : Int), .int .i64 (r : Int), .int .i64 (p0 : Int), .int .i64 (q0 : Int)] 77))).alloc (.cells #[.int .i64 0, .int .i64 0] 25)).alloc (.cells #[.slice none 0 0] 34)
      rw [World.size_alloc] at this
      exact this
    have f0 : Cl (w.heap.size + 2) [.int .i64 0, .int .i64 0] 25 W0 := by
      rw [hW0]
      have := ((Cl.new [.int .i64 0, .int .i64 0] 25 ((w.alloc (.cells #[.int .i64 (d : Int), .int .i64 (r : Int), .int .i64 (p0 : Int), .int .i64 (q0 : Int)] 77)).alloc (.cells #[.slice none 0 0] 34)))).alloc (.cells #[.slice none 0 0] 34)
      rw [World.size_alloc, World.size_alloc] at this
      exact this
    have l0 : Cl (w.heap.size + 3) [.slice none 0 0] 34 W0 := by
      rw [hW0]
      have := (Cl.new [.slice none 0 0] 34 (((w.alloc (.cells #[.int .i64 (d : Int), .int .i64 (r : Int), .int .i64 (p0 : Int), .int .i64 (q0 : Int)] 77)).alloc (.cells #[.slice none 0 0] 34)).alloc (.cells #[.int .i64 0, .int .i64 0] 25)))
      rw [World.size_alloc, World.size_alloc, World.size_alloc] at this
      exact this
    have s0 : Cl (w.heap.size + 4) (sgc d r p0 q0) 77 w1 := by
      rw [hw1, ← z0]; exact Cl.new (sgc d r p0 q0) _ W0
    refine ⟨?_, ?_, ⟨none, 0, ?_, World.ownsRow_nil _ _ _ _, fun g e => by simp⟩, s0, ?_, ⟨by omega, fun g e => by cases e⟩, by simp⟩
    · rw [hw1]; exact v0.alloc _
    · rw [hw1]; exact f0.alloc _
    · rw [hw1]; exact l0.alloc _
    · rw [hw1]; exact k0.alloc (by omega) _
  rw [z0]
  clear hW0 hw1 z0 HPart
  clear W0
  gi_wp2
  have HPY6 := HPY (w.heap.size + 4) (6 - 1) (by decide)
  clear HPY
  refine wpIn_rangeE (F := Fence.wide) (n := 6) rfl (by decide) (gf := 103) (lb := #[.pointer (some ⟨w.heap.size + 4, 0, none⟩)]) rfl trivial (enters_of Tryz.func103 (by kernel_rfl) rfl) HPY6 (fun _ => rfl)
    (fun o pre W => CS w.heap.size d r p0 q0 w pre o W)
    (fun c o pre W => c = .ret ∧ 1000 < N ∧ Cl (w.heap.size + 1) [.slice none 0 0] 34 W ∧ Cl (w.heap.size + 2) [.int .i64 9, .int .i64 0] 25 W ∧ Below w.heap.size w W)
    ?ab ?abp ?abx (fun o s W h => h.s) C0
    (fun x => { tmps := #[.agg #[.int .i64 (d : Int), .int .i64 (r : Int), .int .i64 (p0 : Int), .int .i64 (q0 : Int)], .pointer (some ⟨w.heap.size, 0, none⟩), .pointer (some ⟨w.heap.size + 1, 0, none⟩), .pointer (some ⟨w.heap.size + 2, 0, none⟩), .pointer (some ⟨w.heap.size + 3, 0, none⟩), .int .i64 (x : Int), .agg #[.int .i64 (d : Int), .int .i64 (r : Int), .int .i64 (p0 : Int), .int .i64 (q0 : Int)], .func (.func 103) #[] #[.pointer (some ⟨w.heap.size + 4, 0, none⟩)], .int .i64 (x : Int), undef, undef, undef, undef, undef, undef, undef, undef, undef, undef], defers := [] }) ?assign ?body ?hend ?done ?stop
  case ab => exact fun o s A B o' h hg ho => h.step hg ho
  case abp => exact fun o s A ob h => h.put ob _ (by omega)
  case abx =>
    rintro c o s A ob ⟨h0, h1, h2, h3, h4⟩
    exact ⟨h0, h1, h2.put ob (by omega), h3.put ob (by omega), h4.grown (grownBy_putObj' _ _ _) h4.size (fun k e => by cases e; omega)⟩
  case assign =>
    intro l x W K hK
    gi_wp2
    exact hK
  case hend =>
    intro hf o W h
    have := h.n
    rw [kl_len] at this
    have := HFN.out hf
    omega
  case body =>
    rintro l o pre x W hst hog hpre hz
    obtain ⟨n, hn⟩ : ∃ n, n = pre.length := ⟨_, rfl⟩
    have hnN : n + 1 ≤ N := by have := hpre.length_le; rw [kl_len] at this; simp at this; omega
    have hn1 : n ≤ 1000 := by rw [hn]; exact hst.n
    obtain ⟨a, c, h1, h2, h3⟩ := hst.l
    rw [← hn] at h1 h2 h3
    have q1 := h1.cell 0
    have q2 := h1.frozen 0
    have q3 := hst.v.cell 0
    have q4 := hst.v.frozen 0
    have q5 := hst.f.cell 0
    have q6 := hst.f.cell 1
    have q7 := hst.f.frozen 0
    have q8 := hst.f.frozen 1
    simp at q1 q3 q5 q6
    have HST : Hid (CS w.heap.size d r p0 q0 w pre o W) := hst
    have HV : Hid (Cl (w.heap.size + 3) [.slice a n c] 34 W) := h1
    have HROW : Hid (W.ownsRow (w.heap.size + 7) 3 1 (.slice a n c) n (ints (nz pre))) := h2
    have HNO : Hid (∀ g, (Value.slice a n c).ownBlock = some g → o ≠ some g) := h3
    have HOG : Hid (∀ g, o = some g → w1.heap.size + 2 ≤ g ∧ g < W.heap.size) := hog
    have HNn : Hid (n = pre.length) := hn
    have HPre : Hid (pre ++ [x] <+: kl r t N) := hpre
    clear h1 h2 h3 hst hn hog hpre
    by_cases hb : n = 1000
    · subst hb
      gi_wp2
      have NK : ∀ k, k < w.heap.size + 5 → ¬ keptE w1.heap.size o k := by
        rintro k hk (e | e | e)
        · omega
        · omega
        · have := (HOG.out k e).1; omega
      refine ⟨(((KP.refl _ W).setCell (NK _ (by simp)) _).setCell (NK _ (by simp)) _).setCell (NK _ (by simp)) _, rfl, by omega, ?_, ?_, ?_⟩
      · have h := HST.out.v.set 0 (.slice none 0 0)
        exact (h.other (p := ⟨w.heap.size + 2, 0, none⟩) (by simp) _).other (p := ⟨w.heap.size + 2, 1, none⟩) (by simp) _
      · have h := HST.out.f.other (p := ⟨w.heap.size + 1, 0, none⟩) (by simp) (.slice none 0 0)
        exact (h.set 0 (.int .i64 9)).set 1 (.int .i64 0)
      · exact ((HST.out.b.setCell (by simp) _).setCell (by simp) _).setCell (by simp) _
    · have hbb : ((n : Int) == 1000) = false := beq_eq_false_iff_ne.2 (by omega)
      clear q3 q4 q5 q6 q7 q8
      gi_wp2_with (gi_at_builtin; refine wpListIn_append_own_at _ rfl _ _ 34 rfl (w.heap.size + 7) 3 i0 (.int .i64 0) 1 8 Tryz.underlying34 HI.out.1 HI.out.2.1 HI.out.2.2.1 HI.out.2.2.2 rfl (by decide) (.slice a n c) n (ints (nz pre)) rfl (HROW.out.alloc _) ⟨W.heap.size, 0, none⟩ 1 1 [.int .i64 (x : Int)] rfl rfl (cell_one_new _ _ _) (by simp [Value.oneCell']) (by simp only [maxLen]; omega) (by omega) (by simp; omega) ?_; intro v' w2 hown' hgrow _ hob; obtain ⟨g', cap', rfl⟩ := ownsRow_succ hown'; have hnb : ∀ b, b < w.heap.size + 7 → (Value.slice a n c).ownBlock ≠ some b := fun b hb e => by { have := (HROW.out.lt b e).1; omega }; have A1 : Cl (w.heap.size + 3) [.slice a n c] 34 w2 := (HV.out.alloc _).grown hgrow (hnb _ (by omega)); have r1 := A1.cell 0; have r2 := A1.frozen 0; simp at r1)
      have NK : ∀ k, k < w.heap.size + 5 → ¬ keptE w1.heap.size o k := by
        rintro k hk (e | e | e)
        · omega
        · omega
        · have := (HOG.out k e).1; omega
      have hzW := HST.out.o.1
      have hA2 := A1.set 0 (.slice (some ⟨g', 0, none⟩) (n + 1) cap')
      have G : ∀ k, k < w.heap.size + 7 → k ≠ w.heap.size + 3 → k < W.heap.size → (w2.setCell ⟨w.heap.size + 3, 0, none⟩ (.slice (some ⟨g', 0, none⟩) (n + 1) cap')).heap[k]? = W.heap[k]? := fun k h1 h2 h3 => by
        rw [Below.heap_setCell _ _ _ _ h2, hgrow.block k (by simp; omega) (fun e => hnb k h1 e.symm)]
        exact Below.heap_alloc _ _ _ h3
      refine ⟨?_, ?_⟩
      · refine (((KP.refl _ W).alloc _).grown hgrow (fun g e h => ?_)).setCell (NK _ (by simp)) _
        have h5 := (HROW.out.lt g e).1
        rcases h with h | h | h
        · omega
        · omega
        · exact HNO.out g e h
      · have hlen : (pre ++ [x]).length = n + 1 := by rw [HNn.out]; simp
        refine ⟨(G _ (by omega) (by omega) (by omega)).trans HST.out.v, (G _ (by omega) (by omega) (by omega)).trans HST.out.f, ⟨some ⟨g', 0, none⟩, cap', ?_, ?_, ?_⟩, (G _ (by omega) (by omega) (by omega)).trans HST.out.s, ?_, ?_, by omega⟩
        · rw [hlen]; exact hA2
        · rw [hlen]
          have e : ints (nz (pre ++ [x])) = ints (nz pre) ++ [.int .i64 (x : Int)] := by rw [nz_append, ints_snoc]; rfl
          rw [e]
          exact ownsRow_setCell_below hown' (by show w.heap.size + 3 < _; omega) _
        · rw [hlen]
          intro g e e2
          have e3 : (Value.slice (some ⟨g', 0, none⟩) (n + 1) cap').ownBlock = some g := e
          rcases hob with h | h
          · exact HNO.out g (h ▸ e3) e2
          · rw [h] at e3
            have h5 := (HOG.out g e2).2
            simp at e3
            omega
        · exact ((HST.out.b.alloc (by omega) _).grown hgrow (by simp; omega) (fun k e => by have := (HROW.out.lt k e).1; omega)).setCell (by simp) _
        · refine HST.out.o.size ?_
          have := hgrow.size
          simp [World.setCell] at this ⊢
          omega
  case done =>
    rintro hf o W hst hK
    obtain ⟨a, c, h1, h2, h3⟩ := hst.l
    have hnN : N ≤ 1000 := by have := hst.n; rw [kl_len] at this; exact this
    rw [kl_len] at h1 h2 h3
    have q1 := h1.cell 0
    have q3 := hst.v.cell 0
    have q4 := hst.v.frozen 0
    have q5 := hst.f.cell 0
    have q6 := hst.f.cell 1
    have q7 := hst.f.frozen 0
    have q8 := hst.f.frozen 1
    simp at q1 q3 q5 q6
    have HST : Hid (CS w.heap.size d r p0 q0 w (kl r t N) o W) := hst
    have HROW : Hid (W.ownsRow (w.heap.size + 7) 3 1 (.slice a N c) N (ints (nz (kl r t N)))) := h2
    have HK : Hid (W.heap[w1.heap.size]? = some (.deferred (some []))) := hK
    clear h1 h2 h3 hst hK
    gi_wp2
    generalize hWF : ((W.setCell ⟨w.heap.size + 1, 0, none⟩ (.slice a N c)).setCell ⟨w.heap.size + 1 + 1, 0, none⟩ (.int .i64 0)).setCell ⟨w.heap.size + 1 + 1, 1, none⟩ (.int .i64 0) = WF
    have hv : Cl (w.heap.size + 1) [.slice a N c] 34 WF := by
      rw [← hWF]
      have h := HST.out.v.set 0 (.slice a N c)
      exact (h.other (p := ⟨w.heap.size + 2, 0, none⟩) (by simp) _).other (p := ⟨w.heap.size + 2, 1, none⟩) (by simp) _
    have hfl : Cl (w.heap.size + 2) [.int .i64 0, .int .i64 0] 25 WF := by
      rw [← hWF]
      have h := HST.out.f.other (p := ⟨w.heap.size + 1, 0, none⟩) (by simp) (.slice a N c)
      exact (h.set 0 (.int .i64 0)).set 1 (.int .i64 0)
    have hB : Below w.heap.size w WF := by rw [← hWF]; exact ((HST.out.b.setCell (by simp) _).setCell (by show w.heap.size ≤ w.heap.size + 1 + 1; omega) _).setCell (by show w.heap.size ≤ w.heap.size + 1 + 1; omega) _
    have hR : WF.ownsRow (w.heap.size + 7) 3 1 (.slice a N c) N (ints (nz (kl r t N))) := by
      rw [← hWF]
      exact ownsRow_setCell_below (ownsRow_setCell_below (ownsRow_setCell_below HROW.out (by show w.heap.size + 1 < _; omega) _) (by show w.heap.size + 2 < _; omega) _) (by show w.heap.size + 2 < _; omega) _
    have hK1 : WF.heap[w1.heap.size]? = some (.deferred (some [])) := by
      rw [← hWF, Below.heap_setCell _ _ _ _ (by simp; omega), Below.heap_setCell _ _ _ _ (by simp; omega), Below.heap_setCell _ _ _ _ (by simp; omega)]; exact HK.out
    clear hWF q1 q3 q4 q5 q6 q7 q8
    have hv2 := (hv.put (.deferred none) (show w.heap.size + 1 ≠ w1.heap.size by omega)).cell 0
    have hf2 := (hfl.put (.deferred none) (show w.heap.size + 2 ≠ w1.heap.size by omega)).cell 0
    have hf3 := (hfl.put (.deferred none) (show w.heap.size + 2 ≠ w1.heap.size by omega)).cell 1
    simp at hv2 hf2 hf3
    refine ⟨by simp, .inl ⟨_, _, rfl, run_takeDeferred hK1, ?_⟩⟩
    refine ⟨.tuple #[.slice a N c, .agg #[.int .i64 0, .int .i64 0]], by simp [results, Tryz.results43, go_sem, hv2, hf2, hf3], hB.grown (grownBy_putObj' _ _ _) hB.size (fun k e => by cases e; omega), .inl ⟨hnN, a, c, rfl, ?_⟩⟩
    exact ownsRow_lower (B := w.heap.size + 7) (row_kept hR (fun g e => World.putObj_heap_other (by have := (hR.lt g e).1; omega))) (by omega)
  case stop =>
    rintro c o pre W ⟨rfl, h1, h2, h3, h4⟩ hK
    gi_wp2
    have hv2 := (h2.put (.deferred none) (show w.heap.size + 1 ≠ w1.heap.size by omega)).cell 0
    have hf2 := (h3.put (.deferred none) (show w.heap.size + 2 ≠ w1.heap.size by omega)).cell 0
    have hf3 := (h3.put (.deferred none) (show w.heap.size + 2 ≠ w1.heap.size by omega)).cell 1
    simp at hv2 hf2 hf3
    refine ⟨by simp, .inl ⟨_, _, rfl, run_takeDeferred hK, ?_⟩⟩
    exact ⟨.tuple #[.slice none 0 0, .agg #[.int .i64 9, .int .i64 0]], by simp [results, Tryz.results43, go_sem, hv2, hf2, hf3], h4.grown (grownBy_putObj' _ _ _) h4.size (fun k e => by cases e; omega), .inr ⟨h1, rfl⟩⟩

end Go.Proofs.YtpgedkdaflgfoafGreatDoor
