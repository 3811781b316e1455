import Derived.Test.YtcnfhndejkngkaaGreatDoorJpW
import Derived.Test.YtcnfhndejkngkaaGreatDoorJpV
import Derived.Test.YtcnfhndejkngkaaGreatDoorJpE
import Derived.Shelf.Strings.Builder1
import Derived.Shelf.Strings.BuilderK
import Derived.Shelf.LaysM
import Derived.Shelf.Strconv.Itoa3
import Derived.Shelf.Strings.Repeat
import Derived.Test.YtcnfhndejkngkaaGreatDoorProg
import Derived.Lib.AppendIntMem
import Derived.Test.YtcnfhndejkngkaaGreatDoorJpO
import Derived.Test.YtcnfhndejkngkaaGreatDoorBigG
import Derived.Test.YtcnfhndejkngkaaGreatDoorJpK
import Derived.Deep.LoopGhost
import Derived.BigQuiet
import Derived.Test.YtcnfhndejkngkaaGreatDoorJpG
import Derived.Test.YtcnfhndejkngkaaGreatDoorJpU
import Derived.Laws.IdiomStrings
section
set_option linter.unusedSimpArgs false
set_option linter.unusedVariables false
set_option maxRecDepth 100000
namespace Go.Proofs.YtcnfhndejkngkaaGreatDoor
open Go.RowKit
attribute [local go_sem] Oper.semAt_some
structure AS (h : Nat) (w : World) (pre : List Int) (o : Option Nat) (W : World) : Prop where
  l : ∃ a c, Cl h [.slice a pre.length c] 65 W ∧ W.ownsRow (h + 3) 3 1 (.slice a pre.length c) pre.length (ints pre) ∧ ∀ g, (Value.slice a pre.length c).ownBlock = some g → o ≠ some g
  b : Below h w W
  o : ow (h + 1) o W
theorem AS.step {h : Nat} {w : World} {pre : List Int} {o o' : Option Nat} {W W' : World} (s : AS h w pre o W) (hg : W.grownBy W' o) (ho : o' = o ∨ ∃ g, o' = some g ∧ W.heap.size ≤ g) : AS h w pre o' W' := by
  obtain ⟨a, c, h1, h2, h3⟩ := s.l
  refine ⟨⟨a, c, h1.grown hg (s.o.ne (by omega)), row_kept h2 (fun g e => hg.block g (h2.lt g e).2 (fun e2 => h3 g e e2.symm)), ?_⟩, s.b.grown hg (by have := s.o.1; omega) (fun k e => by have := s.o.2 k e; omega), s.o.step hg ho⟩
  intro g e
  rcases ho with h4 | ⟨g2, h4, h5⟩
  · rw [h4]; exact h3 g e
  · rw [h4]; intro e2; cases e2; have := (h2.lt g e).2; omega
theorem AS.put {h : Nat} {w : World} {pre : List Int} {o : Option Nat} {W : World} (s : AS h w pre o W) (ob : Obj) (k : Nat) (hk : k = h + 1 ∨ k = h + 2) : AS h w pre o (W.putObj k ob) := by
  obtain ⟨a, c, h1, h2, h3⟩ := s.l
  exact ⟨⟨a, c, h1.put ob (by omega), row_kept h2 (fun g e => World.putObj_heap_other (by have := (h2.lt g e).1; omega)), h3⟩, s.b.grown (grownBy_putObj' W _ ob) (by have := s.o.1; omega) (fun k e => by cases e; omega), s.o.put ob⟩
theorem ints_app1 (l : List Int) (x : Int) : ints (l ++ [x]) = ints l ++ [.int .i64 x] := by simp [ints]
set_option maxHeartbeats 8000000 in
theorem AppendSeq_any (gf : Nat) (lb : Array Value) (C : World → Prop) (xs : List Int) (hx : xs.length ≤ 100000) (w : World) (hseq : ∀ n, 2 ≤ n → YieldsE Fence.wide n Tryz.prog gf lb (fun x : Int => #[.int .i64 x]) C xs true)
    (eg : ∀ args w, (callFunc gf args).run Tryz.prog w = .ok (.enter gf args) w) (hC : ∀ W, Below w.heap.size w W → C W) :
    Calls Tryz.prog 127 #[.slice none 0 0, .func (.func gf) #[] lb] w fun e w' => ∃ a c, e = .returned (.slice a xs.length c) ∧ w'.ownsRow w.heap.size 3 1 (.slice a xs.length c) xs.length (ints xs) ∧ Below w.heap.size w w' := by
  obtain ⟨i0, hi, hz0, hz1, hz2⟩ := info_parts Tryz.infoInt
  have HI : Hid (Tryz.prog.info? 3 = some i0 ∧ i0.zero = some (.int .i64 0) ∧ i0.size = 1 ∧ i0.bytes = 8) := ⟨hi, hz0, hz1, hz2⟩
  have HS : Hid (∀ n, 2 ≤ n → YieldsE Fence.wide n Tryz.prog gf lb (fun x : Int => #[.int .i64 x]) C xs true) := hseq
  have HC : Hid (∀ W, Below w.heap.size w W → C W) := hC
  have HE : Hid (∀ args w, (callFunc gf args).run Tryz.prog w = .ok (.enter gf args) w) := eg
  clear hi hz0 hz1 hz2 hseq hC eg
  refine (callsIn_wide (n := 6)).1 ?_
  refine callsIn_of_wp_marks Tryz.func127 rfl trivial ?_ rfl
  simp only [Tryz.ntmps127, List.size_toArray, List.length_cons, List.length_nil, Nat.reduceAdd, Nat.reduceSub, Array.replicate_succ, Array.replicate_zero, List.push_toArray, List.append_toArray, List.nil_append, List.cons_append]
  gi_wp2
  obtain ⟨w1, hw1⟩ : ∃ w1, w1 = w.alloc (.cells #[.slice none 0 0] 65) := ⟨_, rfl⟩
  rw [← hw1]
  have z1 : w1.heap.size = w.heap.size + 1 := by rw [hw1, World.size_alloc]
  have C0 : AS w.heap.size w [] none w1 := by
    refine ⟨⟨none, 0, ?_, World.ownsRow_nil _ _ _ _, fun g e => by simp⟩, ?_, ⟨by omega, fun g e => by cases e⟩⟩
    · rw [hw1]; exact Cl.new [.slice none 0 0] 65 w
    · rw [hw1]; exact (Below.refl _ _).alloc (Nat.le_refl _) _
  clear hw1
  refine wpIn_rangeE (F := Fence.wide) (n := 6) rfl (by decide) (gf := gf) (lb := lb) rfl trivial HE.out (HS.out _ (by decide)) (fun _ => rfl)
    (fun o pre W => AS w.heap.size w pre o W)
    (fun c o pre W => False)
    ?ab ?abp ?abx (fun o s W h => HC.out W h.b) C0
    (fun x => { tmps := #[.slice none 0 0, .func (.func gf) #[] lb, .pointer (some ⟨w.heap.size, 0, none⟩), undef, .slice none 0 0, .int .i64 x, .func (.func gf) #[] lb, .int .i64 x, undef, undef, undef, undef, undef], defers := [] }) ?assign ?body ?hend ?done ?stop
  case ab => exact fun o s A B o' h hg ho => h.step hg ho
  case abp => exact fun o s A ob h => h.put ob _ (by omega)
  case abx => exact fun c o s A ob h => h
  case assign =>
    intro l x W K hK
    gi_wp2
    exact hK
  case hend => intro hf; cases hf
  case body =>
    rintro l o pre x W hst hog hpre hz
    obtain ⟨n, hn⟩ : ∃ n, n = pre.length := ⟨_, rfl⟩
    have hn1 : n ≤ 100000 := by have := hpre.length_le; simp at this; omega
    obtain ⟨a, c, h1, h2, h3⟩ := hst.l
    rw [← hn] at h1 h2 h3
    have q1 := h1.cell 0
    have q2 := h1.frozen 0
    simp at q1
    have HST : Hid (AS w.heap.size w pre o W) := hst
    have HV : Hid (Cl w.heap.size [.slice a n c] 65 W) := h1
    have HROW : Hid (W.ownsRow (w.heap.size + 3) 3 1 (.slice a n c) n (ints pre)) := h2
    have HNO : Hid (∀ g, (Value.slice a n c).ownBlock = some g → o ≠ some g) := h3
    have HOG : Hid (∀ g, o = some g → w1.heap.size + 2 ≤ g ∧ g < W.heap.size) := hog
    have HNn : Hid (n = pre.length) := hn
    clear h1 h2 h3 hst hn hog hpre
    gi_wp2_with (gi_at_builtin; refine wpListIn_append_own_at _ rfl _ _ 65 rfl (w.heap.size + 3) 3 i0 (.int .i64 0) 1 8 Tryz.underlying65 HI.out.1 HI.out.2.1 HI.out.2.2.1 HI.out.2.2.2 rfl (by decide) (.slice a n c) n (ints pre) rfl (HROW.out.alloc _) ⟨W.heap.size, 0, none⟩ 1 1 [.int .i64 x] rfl rfl (cell_one_new _ _ _) (by simp [Value.oneCell']) (by simp only [maxLen]; omega) (by omega) (by simp; omega) ?_; intro v' w2 hown' hgrow _ hob; obtain ⟨g', cap', rfl⟩ := ownsRow_succ hown'; have hnb : ∀ b, b < w.heap.size + 3 → (Value.slice a n c).ownBlock ≠ some b := fun b hb e => by { have := (HROW.out.lt b e).1; omega }; have A1 : Cl w.heap.size [.slice a n c] 65 w2 := (HV.out.alloc _).grown hgrow (hnb _ (by omega)); have r1 := A1.cell 0; have r2 := A1.frozen 0; simp at r1)
    have NK : ¬ keptE w1.heap.size o w.heap.size := by
      rintro (e | e | e)
      · omega
      · omega
      · have := (HOG.out _ e).1; omega
    have hzW := HST.out.o.1
    have hA2 := A1.set 0 (.slice (some ⟨g', 0, none⟩) (n + 1) cap')
    refine ⟨?_, ?_⟩
    · refine (((KP.refl _ W).alloc _).grown hgrow (fun g e h => ?_)).setCell NK _
      have h5 := (HROW.out.lt g e).1
      rcases h with h | h | h
      · omega
      · omega
      · exact HNO.out g e h
    · have hlen : (pre ++ [x]).length = n + 1 := by rw [HNn.out]; simp
      refine ⟨⟨some ⟨g', 0, none⟩, cap', ?_, ?_, ?_⟩, ?_, ?_⟩
      · rw [hlen]; exact hA2
      · rw [hlen, ints_app1]
        exact ownsRow_setCell_below hown' (by show w.heap.size < _; omega) _
      · rw [hlen]
        intro g e e2
        have e3 : (Value.slice (some ⟨g', 0, none⟩) (n + 1) cap').ownBlock = some g := e
        rcases hob with h | h
        · exact HNO.out g (h ▸ e3) e2
        · rw [h] at e3
          have h5 := (HOG.out g e2).2
          simp at e3
          omega
      · exact ((HST.out.b.alloc (by omega) _).grown hgrow (by simp; omega) (fun k e => by have := (HROW.out.lt k e).1; omega)).setCell (by simp) _
      · refine HST.out.o.size ?_
        have := hgrow.size
        simp [World.setCell] at this ⊢
        omega
  case done =>
    rintro hf o W hst hK
    obtain ⟨a, c, h1, h2, h3⟩ := hst.l
    have q1 := h1.cell 0
    simp at q1
    have HST : Hid (AS w.heap.size w xs o W) := hst
    have HROW : Hid (W.ownsRow (w.heap.size + 3) 3 1 (.slice a xs.length c) xs.length (ints xs)) := h2
    have HK : Hid (W.heap[w.heap.size + 1]? = some (.deferred (some []))) := by rw [z1] at hK; exact hK
    clear h1 h2 h3 hst hK
    gi_wp2
    refine ⟨by simp, .inl ⟨_, _, rfl, run_takeDeferred HK.out, ?_⟩⟩
    refine ⟨.slice a xs.length c, by simp [results, Tryz.results127, go_sem], a, c, rfl, ?_, HST.out.b.grown (grownBy_putObj' _ _ _) HST.out.b.size (fun k e => by cases e; omega)⟩
    exact ownsRow_lower (B := w.heap.size + 3) (row_kept HROW.out (fun g e => World.putObj_heap_other (by have := (HROW.out.lt g e).1; omega))) (by omega)
  case stop =>
    rintro c o pre W hf
    exact hf.elim
set_option maxHeartbeats 1000000 in
theorem Collect_any (gf : Nat) (lb : Array Value) (C : World → Prop) (xs : List Int) (hx : xs.length ≤ 100000) (w : World) (hseq : ∀ n, 2 ≤ n → YieldsE Fence.wide n Tryz.prog gf lb (fun x : Int => #[.int .i64 x]) C xs true)
    (eg : ∀ args w, (callFunc gf args).run Tryz.prog w = .ok (.enter gf args) w) (hC : ∀ W, Below w.heap.size w W → C W) :
    Calls Tryz.prog 100 #[.func (.func gf) #[] lb] w fun e w' => ∃ a c, e = .returned (.slice a xs.length c) ∧ w'.ownsRow w.heap.size 3 1 (.slice a xs.length c) xs.length (ints xs) ∧ Below w.heap.size w w' := by
  have HA : Hid (Calls Tryz.prog 127 #[.slice none 0 0, .func (.func gf) #[] lb] w fun e w' => ∃ a c, e = .returned (.slice a xs.length c) ∧ w'.ownsRow w.heap.size 3 1 (.slice a xs.length c) xs.length (ints xs) ∧ Below w.heap.size w w') := AppendSeq_any gf lb C xs hx w hseq eg hC
  clear hseq eg hC
  go_enter Tryz.func100, Tryz.ntmps100
  go_wp2_with fail
  refine HA.out.mono ?_
  rintro e w1 ⟨a, c, rfl, h1, k1⟩
  go_wp2
  go_ret
  exact ⟨a, c, rfl, h1, k1⟩
end Go.Proofs.YtcnfhndejkngkaaGreatDoor
end

section
set_option linter.unusedSimpArgs false
set_option linter.unusedVariables false
set_option maxRecDepth 100000
namespace Go.Proofs.YtcnfhndejkngkaaGreatDoor
open Go.RowKit
def ExIs (a b : Int) (xs : List Int) : Prop := ∃ (A B : Int) (N : Nat), CnQ.En A B N ∧ xs = CnQ.ek A B N ∧ N ≤ 120 ∧ A * b = a * B ∧ A.natAbs ≤ 1000000000000000000 ∧ B.natAbs ≤ 1000000000000000000
theorem en_of (A B : Int) (h0 : 0 < B) (hb : B ≤ 1000000000000000000) : ∃ N, N ≤ 120 ∧ CnQ.En A B N := by
  obtain ⟨N, h1, h2⟩ := CnQ.half 60 A B h0 (by omega)
  exact ⟨N, by omega, h2⟩
set_option maxHeartbeats 2000000 in
theorem Expand_pos (a b : Int) (w : World) (h : okB a b = true) (hb0 : 0 < b) :
    Calls Tryz.prog 71 #[.int .i64 a, .int .i64 b] w fun e w' => ∃ xs p c, e = .returned (.tuple #[.slice p xs.length c, .agg #[.int .i64 0, .int .i64 0]]) ∧ ExIs a b xs ∧ w'.ownsRow w.heap.size 3 1 (.slice p xs.length c) xs.length (ints xs) ∧ Below w.heap.size w w' := by
  obtain ⟨ha, hb'⟩ := okB_bounds h
  have hcd := okB_nf h
  have HCD : Hid (nf 0 [a, b] = (0, 0)) := hcd
  obtain ⟨N, hN, hE⟩ := en_of (a) (b) (by omega) (by omega)
  have HEx : Hid (ExIs a b (CnQ.ek (a) (b) N)) := ⟨a, b, N, hE, rfl, hN, by grind, by omega, by omega⟩
  have hbz : (b == 0) = false := beq_eq_false_iff_ne.2 (by omega)
  have HQ : Hid (∀ w, Calls Tryz.prog 101 #[.int .i64 (a), .int .i64 (b)] w fun e w' => e = .returned (.func (.func 128) #[] #[.pointer (some ⟨w.heap.size, 0, none⟩), .pointer (some ⟨w.heap.size + 1, 0, none⟩)]) ∧ w' = (w.alloc (.cells #[.int .i64 (a)] 3)).alloc (.cells #[.int .i64 (b)] 3)) := fun w => quotients_any _ _ w
  have HCl : Hid (∀ (w W : World), W = (w.alloc (.cells #[.int .i64 (a)] 3)).alloc (.cells #[.int .i64 (b)] 3) → Calls Tryz.prog 100 #[.func (.func 128) #[] #[.pointer (some ⟨w.heap.size, 0, none⟩), .pointer (some ⟨w.heap.size + 1, 0, none⟩)]] W fun e w' => ∃ p c, e = .returned (.slice p N c) ∧ w'.ownsRow W.heap.size 3 1 (.slice p N c) N (ints (CnQ.ek (a) (b) N)) ∧ Below W.heap.size W w') := fun w W hW => by
    have c1 : Cl w.heap.size [.int .i64 (a)] 3 W := by rw [hW]; exact (Cl.new [.int .i64 (a)] 3 w).alloc _
    have c2 : Cl (w.heap.size + 1) [.int .i64 (b)] 3 W := by
      rw [hW]
      have := Cl.new [.int .i64 (b)] 3 (w.alloc (.cells #[.int .i64 (a)] 3))
      rw [World.size_alloc] at this; exact this
    have := Collect_any 128 #[.pointer (some ⟨w.heap.size, 0, none⟩), .pointer (some ⟨w.heap.size + 1, 0, none⟩)] _ (CnQ.ek (a) (b) N) (by rw [CnQ.ek_len]; omega) W (fun n hn => quotients_yields (a) (b) N w.heap.size (w.heap.size + 1) hE (by omega) (by omega) n hn) (enters_of Tryz.func128 (by kernel_rfl) rfl) (fun X k => ⟨c1.below k, c2.below k⟩)
    rw [CnQ.ek_len] at this
    exact this
  clear hcd h hE
  go_enter Tryz.func71, Tryz.ntmps71
  go_wp2_with fail
  refine (numbersFault_any [a, b] _ 0 _ _ (by simp) ?_ ?_).mono ?_
  · simp
  · exact two_cells a b _ _ (by simp) (by simp)
  rw [HCD.out]
  rintro e w1 ⟨rfl, hb⟩
  have hz : w.heap.size < w1.heap.size := by have := hb.size; simp at this; omega
  have q0 : w1.cell? ⟨w.heap.size, 0, none⟩ = some (.int .i64 0) := cell_later hb (by simp)
  have q1 : w1.cell? ⟨w.heap.size, 1, none⟩ = some (.int .i64 0) := cell_later hb (by simp)
  have q2 : w1.frozen? ⟨w.heap.size, 0, none⟩ = false := (hb.frozen (p := ⟨w.heap.size, 0, none⟩) (by simp; omega)).trans (by simp)
  have q3 : w1.frozen? ⟨w.heap.size, 1, none⟩ = false := (hb.frozen (p := ⟨w.heap.size, 1, none⟩) (by simp; omega)).trans (by simp)
  have HB1 : Hid (Below w.heap.size w w1) := Below.trans (Below.alloc (Below.alloc (Below.refl _ _) (Nat.le_refl _) _) (by simp) _) (hb.mono (by simp; omega))
  clear hb
  go_wp2_with fail
  obtain ⟨w2, hw2⟩ : ∃ w2, w2 = w1.alloc (.cells #[.int .i64 0, .int .i64 0] 25) := ⟨_, rfl⟩
  rw [← hw2]
  have HB2 : Hid (Below w.heap.size w w2) := by rw [hw2]; exact HB1.out.alloc (by omega) _
  have r0 : w2.cell? ⟨w.heap.size, 0, none⟩ = some (.int .i64 0) := by rw [hw2, cell_old_at _ _ _ hz]; exact q0
  have r1 : w2.cell? ⟨w.heap.size, 1, none⟩ = some (.int .i64 0) := by rw [hw2, cell_old_at _ _ _ hz]; exact q1
  have r2 : w2.frozen? ⟨w.heap.size, 0, none⟩ = false := by rw [hw2, frozen_old_at _ _ _ hz]; exact q2
  have r3 : w2.frozen? ⟨w.heap.size, 1, none⟩ = false := by rw [hw2, frozen_old_at _ _ _ hz]; exact q3
  have hz2 : w.heap.size < w2.heap.size := by rw [hw2, World.size_alloc]; omega
  clear q0 q1 q2 q3 hw2 HB1
  refine (HQ.out w2).mono ?_
  rintro e w3 ⟨rfl, hw3⟩
  have HW3 : Hid (w3 = (w2.alloc (.cells #[.int .i64 (a)] 3)).alloc (.cells #[.int .i64 (b)] 3)) := hw3
  clear hw3
  go_wp2_with fail
  refine (HCl.out w2 w3 HW3.out).mono ?_
  rintro e w4 ⟨p, c, rfl, h4, k4⟩
  have hw3 := HW3.out
  have K3 : Below w2.heap.size w2 w3 := by rw [hw3]; exact ((Below.refl _ _).alloc (Nat.le_refl _) _).alloc (by simp) _
  have K4 : Below w2.heap.size w2 w4 := K3.trans (k4.mono K3.size)
  have HB4 : Hid (Below w.heap.size w w4) := HB2.out.trans (K4.mono (by omega))
  have s0 : w4.cell? ⟨w.heap.size, 0, none⟩ = some (.int .i64 0) := (K4.cell (p := ⟨w.heap.size, 0, none⟩) hz2).trans r0
  have s1 : w4.cell? ⟨w.heap.size, 1, none⟩ = some (.int .i64 0) := (K4.cell (p := ⟨w.heap.size, 1, none⟩) hz2).trans r1
  have s2 : w4.frozen? ⟨w.heap.size, 0, none⟩ = false := (K4.frozen (p := ⟨w.heap.size, 0, none⟩) hz2).trans r2
  have s3 : w4.frozen? ⟨w.heap.size, 1, none⟩ = false := (K4.frozen (p := ⟨w.heap.size, 1, none⟩) hz2).trans r3
  have HR : Hid (w4.ownsRow w3.heap.size 3 1 (.slice p N c) N (ints (CnQ.ek (a) (b) N))) := h4
  have hz3 := K3.size
  have hz4 := K4.size
  have HZ : Hid (w.heap.size < w3.heap.size) := by show _ < _; omega
  have hz5 : w.heap.size < w4.heap.size := by omega
  clear r0 r1 r2 r3 hw3 h4 k4 K3 K4 hz2 hz3 hz4 hz
  go_wp2
  refine bodyPost_ret (v := .tuple #[.slice p N c, .agg #[.int .i64 0, .int .i64 0]]) (by simp [results, Tryz.results71, go_sem, s0, s1, hz5]) rfl ⟨CnQ.ek (a) (b) N, p, c, ?_, HEx.out, ?_, ?_⟩
  · rw [CnQ.ek_len]
  · rw [CnQ.ek_len]
    exact ownsRow_lower (ownsRow_setCell_below (ownsRow_setCell_below HR.out HZ.out _) HZ.out _) (Nat.le_of_lt HZ.out)
  · exact (HB4.out.setCell (Nat.le_refl _) _).setCell (Nat.le_refl _) _
end Go.Proofs.YtcnfhndejkngkaaGreatDoor
end

section
set_option linter.unusedSimpArgs false
set_option linter.unusedVariables false
set_option maxRecDepth 100000
namespace Go.Proofs.YtcnfhndejkngkaaGreatDoor
open Go.RowKit LgM
structure Pb (b : Nat) (vx vy : Value) (w : World) : Prop where
  x : Cl b [vx] 116 w
  y : Cl (b + 1) [vy] 116 w
  z : Cl (b + 2) [.slice none 0 0] 116 w
end Go.Proofs.YtcnfhndejkngkaaGreatDoor
end

section
namespace Go.Proofs.YtcnfhndejkngkaaGreatDoor
open Go.Shelf
def Tryz.lays169_ren : Go.Shelf.Ren := ⟨fun | 169 => 74 | n => n, fun | 70 => 98 | 9 => 9 | 0 => 0 | 72 => 100 | 37 => 89 | 127 => 143 | 3 => 3 | 5 => 5 | n => n, fun | n => n⟩
theorem Tryz.lays169 : Go.Proofs.Lays.n169 Tryz.prog Tryz.lays169_ren := {
  mixed := by kernel_rfl
  f169 := Tryz.func74.trans (congrArg some (by kernel_rfl))
  t0 := Tryz.underlying0
  a0 := Tryz.isAgg0
  z0 := Tryz.sizeOf0
  v0 := Tryz.zeroValue0
  t3 := Tryz.underlying3
  a3 := Tryz.isAgg3
  z3 := Tryz.sizeOf3
  v3 := Tryz.zeroValue3
  t9 := Tryz.underlying9
  a9 := Tryz.isAgg9
  z9 := Tryz.sizeOf9
  v9 := Tryz.zeroValue9
  t37 := Tryz.underlying89
  a37 := Tryz.isAgg89
  z37 := Tryz.sizeOf89
  v37 := Tryz.zeroValue89
  t70 := Tryz.underlying98
  a70 := Tryz.isAgg98
  z70 := Tryz.sizeOf98
  v70 := Tryz.zeroValue98
  t72 := Tryz.underlying100
  a72 := Tryz.isAgg100
  z72 := Tryz.sizeOf100
  v72 := Tryz.zeroValue100
  t127 := Tryz.underlying143
  a127 := Tryz.isAgg143
  z127 := Tryz.sizeOf143
  v127 := Tryz.zeroValue143 }
theorem Tryz.Builder_Extra_169 : Builder.Extra Tryz.prog Tryz.lays169_ren := {
  sizeBuilder := by kernel_rfl
  liesBuilder := by kernel_rfl
  t5 := Tryz.underlying5
  a5 := Tryz.isAgg5
  z5 := Tryz.sizeOf5
  v5 := Tryz.zeroValue5
  infoByte := by kernel_rfl
  cellsByte := by kernel_rfl
  sizeByte := by kernel_rfl
  neB5 := by decide }
open Go.RowKit in
theorem Tryz.Builder_String_any_k (B b : Nat) (l : List UInt8) (w : World) (h : Lib.IsBuilderF 100 5 B b (Lib.byteCells l) w) (hBw : B ≤ w.heap.size) :
    Calls Tryz.prog 74 #[.pointer (some ⟨b, 0, none⟩)] w fun e w' => e = .returned (.string ⟨l.toArray⟩) ∧ (Lib.IsBuilderF 100 5 B b (Lib.byteCells l) w' ∧ Below B w w' ∧ Lib.OthersKept 5 (some b) w w') := Any.Builder_String_any_k Tryz.lays169 Tryz.Builder_Extra_169 B b l w h hBw
def Tryz.laysM171_ren : Go.Shelf.Ren := ⟨fun | 171 => 92 | 243 => 121 | 246 => 142 | 283 => 151 | 284 => 152 | 285 => 153 | 286 => 154 | 129 => 162 | 317 => 161 | 318 => 163 | 319 => 164 | 320 => 165 | 337 => 174 | 338 => 175 | n => n, fun | 3 => 3 | 9 => 9 | 2 => 2 | 4 => 4 | 171 => 179 | 0 => 0 | 53 => 94 | 37 => 89 | 5 => 5 | 173 => 182 | 212 => 192 | 51 => 106 | 20 => 20 | 213 => 193 | 46 => 134 | 232 => 203 | 233 => 204 | n => n, fun | 17 => 3 | 18 => 4 | 19 => 5 | n => n⟩
theorem Tryz.laysM171 : Go.Proofs.LaysM.n171 Tryz.prog Tryz.laysM171_ren := {
  mixed := by kernel_rfl
  f129 := Tryz.func162.trans (congrArg some (by kernel_rfl))
  f171 := Tryz.func92.trans (congrArg some (by kernel_rfl))
  f243 := Tryz.func121.trans (congrArg some (by kernel_rfl))
  f246 := Tryz.func142.trans (congrArg some (by kernel_rfl))
  f283 := Tryz.func151.trans (congrArg some (by kernel_rfl))
  f284 := Tryz.func152.trans (congrArg some (by kernel_rfl))
  f285 := Tryz.func153.trans (congrArg some (by kernel_rfl))
  f286 := Tryz.func154.trans (congrArg some (by kernel_rfl))
  f317 := Tryz.func161.trans (congrArg some (by kernel_rfl))
  f318 := Tryz.func163.trans (congrArg some (by kernel_rfl))
  f319 := Tryz.func164.trans (congrArg some (by kernel_rfl))
  f320 := Tryz.func165.trans (congrArg some (by kernel_rfl))
  f337 := Tryz.func174.trans (congrArg some (by kernel_rfl))
  f338 := Tryz.func175.trans (congrArg some (by kernel_rfl))
  t0 := Tryz.underlying0
  a0 := Tryz.isAgg0
  z0 := Tryz.sizeOf0
  v0 := Tryz.zeroValue0
  t2 := Tryz.underlying2
  a2 := Tryz.isAgg2
  z2 := Tryz.sizeOf2
  v2 := Tryz.zeroValue2
  t3 := Tryz.underlying3
  a3 := Tryz.isAgg3
  z3 := Tryz.sizeOf3
  v3 := Tryz.zeroValue3
  t4 := Tryz.underlying4
  a4 := Tryz.isAgg4
  z4 := Tryz.sizeOf4
  v4 := Tryz.zeroValue4
  t5 := Tryz.underlying5
  a5 := Tryz.isAgg5
  z5 := Tryz.sizeOf5
  v5 := Tryz.zeroValue5
  t9 := Tryz.underlying9
  a9 := Tryz.isAgg9
  z9 := Tryz.sizeOf9
  v9 := Tryz.zeroValue9
  t20 := Tryz.underlying20
  a20 := Tryz.isAgg20
  z20 := Tryz.sizeOf20
  v20 := Tryz.zeroValue20
  t37 := Tryz.underlying89
  a37 := Tryz.isAgg89
  z37 := Tryz.sizeOf89
  v37 := Tryz.zeroValue89
  t46 := Tryz.underlying134
  a46 := Tryz.isAgg134
  z46 := Tryz.sizeOf134
  v46 := Tryz.zeroValue134
  t51 := Tryz.underlying106
  a51 := Tryz.isAgg106
  z51 := Tryz.sizeOf106
  v51 := Tryz.zeroValue106
  t53 := Tryz.underlying94
  a53 := Tryz.isAgg94
  z53 := Tryz.sizeOf94
  v53 := Tryz.zeroValue94
  t171 := Tryz.underlying179
  a171 := Tryz.isAgg179
  z171 := Tryz.sizeOf179
  v171 := Tryz.zeroValue179
  t173 := Tryz.underlying182
  a173 := Tryz.isAgg182
  z173 := Tryz.sizeOf182
  v173 := Tryz.zeroValue182
  t212 := Tryz.underlying192
  a212 := Tryz.isAgg192
  z212 := Tryz.sizeOf192
  v212 := Tryz.zeroValue192
  t213 := Tryz.underlying193
  a213 := Tryz.isAgg193
  z213 := Tryz.sizeOf193
  t232 := Tryz.underlying203
  a232 := Tryz.isAgg203
  z232 := Tryz.sizeOf203
  v232 := Tryz.zeroValue203
  t233 := Tryz.underlying204
  a233 := Tryz.isAgg204
  z233 := Tryz.sizeOf204
  v233 := Tryz.zeroValue204
  g17 := by kernel_rfl
  g18 := by kernel_rfl
  g19 := by kernel_rfl
  i0 := by kernel_rfl
  i2 := by kernel_rfl
  i3 := by kernel_rfl
  i4 := by kernel_rfl
  i5 := by kernel_rfl
  i9 := by kernel_rfl
  i20 := by kernel_rfl
  i37 := by kernel_rfl
  i46 := by kernel_rfl
  i51 := by kernel_rfl
  i53 := by kernel_rfl
  i171 := by kernel_rfl
  i173 := by kernel_rfl
  i212 := by kernel_rfl
  i232 := by kernel_rfl
  i233 := by kernel_rfl
  m17 := by kernel_rfl
  m18 := by kernel_rfl
  m19 := by kernel_rfl }
open Go.RowKit Go.Sort Go.Lib in
theorem Tryz.strconv_Itoa (n : Int) (h0 : -9223372036854775808 ≤ n) (h1 : n ≤ 9223372036854775807) (w : World) (htab : Lib.TabIs Tryz.prog w "internal/strconv.uint64pow10" .u64 Lib.pow10Tab) :
    Calls Tryz.prog 92 #[.int .i64 n] w fun e w' => e = .returned (.string ⟨(Lib.itoa n).toArray⟩) ∧ ∃ k os, w' = grow (w.drewN k) os := Any.strconv_Itoa Tryz.laysM171 n h0 h1 w htab
def Tryz.lays105_ren : Go.Shelf.Ren := ⟨fun | 105 => 73 | 212 => 103 | 99 => 104 | 165 => 105 | 166 => 72 | 170 => 106 | 169 => 74 | 263 => 131 | 264 => 132 | 206 => 133 | 240 => 102 | 241 => 134 | 276 => 130 | 277 => 145 | n => n, fun | 9 => 9 | 3 => 3 | 4 => 4 | 20 => 20 | 0 => 0 | 46 => 134 | 109 => 139 | 5 => 5 | 72 => 100 | 76 => 103 | 51 => 106 | 146 => 160 | 53 => 94 | 148 => 162 | 70 => 98 | 37 => 89 | 75 => 102 | 127 => 143 | 164 => 158 | 80 => 58 | n => n, fun | n => n⟩
theorem Tryz.lays105 : Go.Proofs.Lays.n105 Tryz.prog Tryz.lays105_ren := {
  mixed := by kernel_rfl
  f99 := Tryz.func104.trans (congrArg some (by kernel_rfl))
  f105 := Tryz.func73.trans (congrArg some (by kernel_rfl))
  f165 := Tryz.func105.trans (congrArg some (by kernel_rfl))
  f166 := Tryz.func72.trans (congrArg some (by kernel_rfl))
  f169 := Tryz.func74.trans (congrArg some (by kernel_rfl))
  f170 := Tryz.func106.trans (congrArg some (by kernel_rfl))
  f206 := Tryz.func133.trans (congrArg some (by kernel_rfl))
  f212 := Tryz.func103.trans (congrArg some (by kernel_rfl))
  f240 := Tryz.func102.trans (congrArg some (by kernel_rfl))
  f241 := Tryz.func134.trans (congrArg some (by kernel_rfl))
  f263 := Tryz.func131.trans (congrArg some (by kernel_rfl))
  f264 := Tryz.func132.trans (congrArg some (by kernel_rfl))
  f276 := Tryz.func130.trans (congrArg some (by kernel_rfl))
  f277 := Tryz.func145.trans (congrArg some (by kernel_rfl))
  t0 := Tryz.underlying0
  a0 := Tryz.isAgg0
  z0 := Tryz.sizeOf0
  v0 := Tryz.zeroValue0
  t3 := Tryz.underlying3
  a3 := Tryz.isAgg3
  z3 := Tryz.sizeOf3
  v3 := Tryz.zeroValue3
  t4 := Tryz.underlying4
  a4 := Tryz.isAgg4
  z4 := Tryz.sizeOf4
  v4 := Tryz.zeroValue4
  t5 := Tryz.underlying5
  a5 := Tryz.isAgg5
  z5 := Tryz.sizeOf5
  v5 := Tryz.zeroValue5
  t9 := Tryz.underlying9
  a9 := Tryz.isAgg9
  z9 := Tryz.sizeOf9
  v9 := Tryz.zeroValue9
  t20 := Tryz.underlying20
  a20 := Tryz.isAgg20
  z20 := Tryz.sizeOf20
  v20 := Tryz.zeroValue20
  t37 := Tryz.underlying89
  a37 := Tryz.isAgg89
  z37 := Tryz.sizeOf89
  v37 := Tryz.zeroValue89
  t46 := Tryz.underlying134
  a46 := Tryz.isAgg134
  z46 := Tryz.sizeOf134
  v46 := Tryz.zeroValue134
  t51 := Tryz.underlying106
  a51 := Tryz.isAgg106
  z51 := Tryz.sizeOf106
  v51 := Tryz.zeroValue106
  t53 := Tryz.underlying94
  a53 := Tryz.isAgg94
  z53 := Tryz.sizeOf94
  v53 := Tryz.zeroValue94
  t70 := Tryz.underlying98
  a70 := Tryz.isAgg98
  z70 := Tryz.sizeOf98
  v70 := Tryz.zeroValue98
  t72 := Tryz.underlying100
  a72 := Tryz.isAgg100
  z72 := Tryz.sizeOf100
  v72 := Tryz.zeroValue100
  t75 := Tryz.underlying102
  a75 := Tryz.isAgg102
  z75 := Tryz.sizeOf102
  v75 := Tryz.zeroValue102
  t76 := Tryz.underlying103
  a76 := Tryz.isAgg103
  z76 := Tryz.sizeOf103
  v76 := Tryz.zeroValue103
  t109 := Tryz.underlying139
  a109 := Tryz.isAgg139
  z109 := Tryz.sizeOf139
  v109 := Tryz.zeroValue139
  t127 := Tryz.underlying143
  a127 := Tryz.isAgg143
  z127 := Tryz.sizeOf143
  v127 := Tryz.zeroValue143
  t146 := Tryz.underlying160
  a146 := Tryz.isAgg160
  z146 := Tryz.sizeOf160
  v146 := Tryz.zeroValue160
  t148 := Tryz.underlying162
  a148 := Tryz.isAgg162
  z148 := Tryz.sizeOf162
  v148 := Tryz.zeroValue162
  t164 := Tryz.underlying158
  a164 := Tryz.isAgg158
  z164 := Tryz.sizeOf158
  v164 := Tryz.zeroValue158 }
theorem Tryz.Builder_Extra_105 : Builder.Extra Tryz.prog Tryz.lays105_ren := {
  sizeBuilder := by kernel_rfl
  liesBuilder := by kernel_rfl
  t5 := Tryz.underlying5
  a5 := Tryz.isAgg5
  z5 := Tryz.sizeOf5
  v5 := Tryz.zeroValue5
  infoByte := by kernel_rfl
  cellsByte := by kernel_rfl
  sizeByte := by kernel_rfl
  neB5 := by decide }
open Go.RowKit Go.Lib in
theorem Tryz.strings_Repeat (s : ByteArray) (c : Nat) (w : World) (hc : c ≤ 9223372036854775807) (hlen : s.size * c ≤ 140737488355328) :
    Calls Tryz.prog 73 #[.string s, .int .i64 c] w fun e w' => e = .returned (.string ⟨(Lib.repeatL s.data.toList c).toArray⟩) ∧ Below w.heap.size w w' := Any.strings_Repeat Tryz.lays105 Tryz.Builder_Extra_105 s c w hc hlen
end Go.Proofs.YtcnfhndejkngkaaGreatDoor
end

section
set_option linter.unusedSimpArgs false
set_option linter.unusedVariables false
set_option maxRecDepth 100000
namespace Go.Proofs.YtcnfhndejkngkaaGreatDoor
open Go.RowKit LgM
def Tq (w : World) : Prop := Lib.TabIs Tryz.prog w "internal/strconv.uint64pow10" .u64 Lib.pow10Tab
theorem Tq.below {w w' : World} (h : Tq w) (k : Below w.heap.size w w') : Tq w' := Lib.tabBelow_of_tabIs h w' k
theorem below_grow (w : World) (k : Nat) (os : Array Obj) : Below w.heap.size w (Sort.grow (w.drewN k) os) := by
  refine ⟨rfl, rfl, rfl, by simp [Sort.grow, World.drewN], fun j hj => ?_⟩
  have : (w.drewN k).heap = w.heap := rfl
  simp [Sort.grow, this, Array.getElem?_append_left hj]
def Bd (b : Nat) (l : List UInt8) (w : World) : Prop := Lib.IsBuilderF 100 5 b b (Lib.byteCells l) w
theorem BuilderAtF_below {T e : TypeId} {B b : Nat} {p : Value} {bs : List Value} {w w' : World} (h : Lib.BuilderAtF T e B b p bs w) (k : Below w.heap.size w w') : Lib.BuilderAtF T e B b p bs w' := by
  obtain ⟨h1, v, h2, h3, h4⟩ := h
  refine ⟨h1, v, (k.block b (lt_of_some h2)).trans h2, ?_, h4⟩
  obtain ⟨h5, h6 | ⟨g, cap, cur, fz, a1, a2, a3, a4⟩⟩ := h3
  · exact ⟨h5, .inl h6⟩
  · exact ⟨h5, .inr ⟨g, cap, cur, fz, a1, a2, (k.block g (lt_of_some a3)).trans a3, a4⟩⟩
theorem Bd.below {b : Nat} {l : List UInt8} {w w' : World} (h : Bd b l w) (k : Below w.heap.size w w') : Bd b l w' := by
  rcases h with h | h
  · exact .inl (BuilderAtF_below h k)
  · exact .inr (BuilderAtF_below h k)
theorem Bd.new (w : World) : Bd w.heap.size [] (w.alloc (.cells #[.pointer none, .slice none 0 0] 100)) := Lib.IsBuilderF.of (Lib.fresh_isBuilder _ _ w)
theorem Itoa_nat (n : Nat) (h : n ≤ 9000000000000000000) (w : World) (hT : Tq w) :
    Calls Tryz.prog 92 #[.int .i64 (n : Int)] w fun e w' => e = .returned (.string ⟨(Lib.decDigits n).toArray⟩) ∧ Below w.heap.size w w' := by
  refine (Tryz.strconv_Itoa n (by omega) (by omega) w hT).mono ?_
  rintro e w' ⟨rfl, k, os, rfl⟩
  refine ⟨?_, below_grow w k os⟩
  unfold Lib.itoa
  rw [if_neg (by omega)]
  rfl
theorem Tryz.Write_k (B b : Nat) (bs : List Value) (s : ByteArray) (w : World) (h : Lib.IsBuilderF 100 5 B b bs w) (hlen : bs.length + s.size ≤ 140737488355328) (hBw : B ≤ w.heap.size) :
    Calls Tryz.prog 72 #[.pointer (some ⟨b, 0, none⟩), .string s] w fun e w' => e = .returned (.tuple #[.int .i64 s.size, .nilIface]) ∧ (Lib.BuilderAtF 100 5 B b (.pointer (some ⟨b, 0, none⟩)) (bs ++ Lib.strCells s) w' ∧ Below B w w' ∧ Lib.OthersKept 5 (some b) w w') :=
  Any.Builder_WriteString_k (ρ := Tryz.lays105_ren) { Tryz.lays105 with } Tryz.Builder_Extra_105 B b bs s w h hlen hBw
theorem Write_text (b : Nat) (l s : List UInt8) (w : World) (h : Bd b l w) (hb : b ≤ w.heap.size) (hl : l.length + s.length ≤ 100000000) :
    Calls Tryz.prog 72 #[.pointer (some ⟨b, 0, none⟩), .string ⟨s.toArray⟩] w fun e w' => e = .returned (.tuple #[.int .i64 s.length, .nilIface]) ∧ Bd b (l ++ s) w' ∧ Below b w w' := by
  refine (Tryz.Write_k b b _ ⟨s.toArray⟩ w h (by rw [Lib.byteCells_length]; show l.length + s.toArray.size ≤ _; simp; omega) hb).mono ?_
  rintro e w' ⟨rfl, h1, h2, _⟩
  refine ⟨rfl, .inr ?_, h2⟩
  rw [Lib.byteCells_append]
  exact h1
end Go.Proofs.YtcnfhndejkngkaaGreatDoor
end

section
set_option linter.unusedSimpArgs false
set_option linter.unusedVariables false
set_option maxRecDepth 100000
namespace Go.Proofs.YtcnfhndejkngkaaGreatDoor
open Go.RowKit
namespace ST
theorem qs_le : ∀ f x y, qs f x y ≤ x + y
  | 0, _, _ => Nat.zero_le _
  | f + 1, x, y => by
    unfold qs
    by_cases h : y = 0
    · rw [if_pos h]; omega
    · rw [if_neg h]
      have h1 := qs_le f y (x % y)
      have h2 := Nat.div_add_mod x y
      have h3 : x / y ≤ y * (x / y) := Nat.le_mul_of_pos_left _ (by omega)
      omega
theorem qsum_le (x y : Nat) : qsum x y ≤ x + y := qs_le _ x y
end ST
structure Stp (w W : World) (b : Nat) (s : Int) : Prop where
  s : BigAt W b s
  b0 : w.heap.size ≤ b
  k : Below w.heap.size w W
end Go.Proofs.YtcnfhndejkngkaaGreatDoor
end

section
set_option linter.unusedSimpArgs false
set_option linter.unusedVariables false
set_option maxRecDepth 100000
namespace Go.Proofs.YtcnfhndejkngkaaGreatDoor
open Go.RowKit LgM
def decZ (x : Int) : List UInt8 := if x < 0 then 45 :: Lib.decDigits x.natAbs else Lib.decDigits x.natAbs
theorem Tryz.infoU8 : (Tryz.prog.info? 5).map (fun i => (i.zero, i.size, i.bytes)) = some (some (.int .u8 0), 1, 1) := by kernel_rfl
def u8s (l : List UInt8) : List Value := l.map fun c => .int .u8 (c.toNat : Int)
structure Dg (w wx : World) (v : Value) (cs : List UInt8) : Prop where
  row : wx.ownsRow w.heap.size 5 1 v cs.length (u8s cs)
  k : Below w.heap.size w wx
theorem own_news {b : Nat} {l : List Value} {t : TypeId} {w : World} (h : Cl b l t w) : ∀ j u, l[j]? = some u → w.cell? ((⟨b, 0, none⟩ : Addr).add j) = some u := by
  intro j u hu
  have hadd : (⟨b, 0, none⟩ : Addr).add j = ⟨b, j, none⟩ := by unfold Addr.add; split <;> simp_all
  rw [hadd, h.cell j]
  exact hu
def Lf (n a : Nat) (cs : List UInt8) : Prop := (0 < a ∧ Lib.decDigits n = Lib.decDigits a ++ cs.reverse) ∨ (a = 0 ∧ Lib.decDigits n = cs.reverse)
def rv (T : List UInt8) (i j : Nat) : Nat := if j < i ∨ T.length - 1 - i < j then (T.getD (T.length - 1 - j) 0).toNat else (T.getD j 0).toNat
def Rvd (T : List UInt8) (g i : Nat) (W : World) : Prop := ∀ j, j < T.length → W.cell? ⟨g, j, none⟩ = some (.int .u8 (rv T i j : Int)) ∧ W.frozen? ⟨g, j, none⟩ = false
end Go.Proofs.YtcnfhndejkngkaaGreatDoor
end

section
set_option linter.unusedSimpArgs false
set_option linter.unusedVariables false
set_option maxRecDepth 100000
namespace Go.Proofs.YtcnfhndejkngkaaGreatDoor
open Go.RowKit LgM
set_option maxHeartbeats 4000000 in
theorem own_shape {B n : Nat} {w : World} {v : Value} {xs : List Value} {e : TypeId} (h : w.ownsRow B e 1 v n xs) (hn : 0 < n) : ∃ g cap, v = .slice (some ⟨g, 0, none⟩) n cap ∧ B ≤ g ∧ g < w.heap.size ∧ ∀ j, j < n → w.cell? ⟨g, j, none⟩ = xs[j]? ∧ w.frozen? ⟨g, j, none⟩ = false := by
  rcases h.2 with ⟨_, h0⟩ | ⟨g, cap, cur, h1, h2, h3, h4, h5, h6, h7⟩
  · omega
  · refine ⟨g, cap, h1, h2, lt_of_some h3, fun j hj => ⟨?_, ?_⟩⟩
    · rw [← h7, List.getElem?_take_of_lt (by omega)]
      simp [World.cell?, h3]
    · simp [World.frozen?, h3]
end Go.Proofs.YtcnfhndejkngkaaGreatDoor
end
