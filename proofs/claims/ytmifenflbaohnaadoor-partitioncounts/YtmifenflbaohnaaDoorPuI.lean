/- The program: next. -/
import Derived.Test.YtmifenflbaohnaaDoorPuH
import Derived.Test.YtmifenflbaohnaaDoorJnD
import Derived.Test.YtmifenflbaohnaaDoorJnE
import Derived.Test.YtmifenflbaohnaaDoorRegionN
set_option linter.unusedSimpArgs false
set_option linter.unusedVariables false
set_option maxRecDepth 100000
namespace Go.Proofs.YtmifenflbaohnaaDoor
open Go.RowKit LgM
attribute [local go_sem] Oper.semAt_some

theorem bel_one (w : World) (o : Obj) : Below w.heap.size w (w.alloc o) := Below.alloc (Below.refl _ _) (Nat.le_refl _) o
theorem calls_rnd {n l : Nat} {P : Program} {f : FuncId} {args : Array Value} {w : World} {R : Ending → World → Prop} (h : Calls P f args w R) : CallsIn (Fence.wide.inRound l) n P f args w R := (callsIn_wide (n := n)).2 h
/-- What is put together out of a list of steps. -/
def sA (n : Nat) (b : Bool) (l : List (Nat × Bool)) : Nat := (l.map fun x => if x.2 = b then PT.pt (n - x.1) (n - x.1) else 0).sum
theorem sA_app (n : Nat) (b : Bool) (l : List (Nat × Bool)) (x : Nat × Bool) : sA n b (l ++ [x]) = sA n b l + if x.2 = b then PT.pt (n - x.1) (n - x.1) else 0 := by
  unfold sA; simp
theorem sA_pgl (n : Nat) (b : Bool) : ∀ K, (∀ k, k ≤ K → 1 ≤ k → PT.pgn k ≤ n) → sA n b (pgl n K) = PT.eus b (fun m => PT.pt m m) n K
  | 0, _ => rfl
  | K + 1, h => by
    have ih := sA_pgl n b K (fun k h1 h2 => h k (by omega) h2)
    have h1 := h (K + 1) (Nat.le_refl _) (by omega)
    have e : pgl n (K + 1) = pgl n K ++ pg1 n (K + 1) := rfl
    have s1 : PT.shf (PT.pgn (K + 1)) (fun m => PT.pt m m) n = PT.pt (n - PT.pgn (K + 1)) (n - PT.pgn (K + 1)) := by unfold PT.shf; rw [if_pos h1]
    have hk : (kod (K + 1) = b) ↔ (decide ((K + 1) % 2 = 1) = b) := Iff.rfl
    by_cases h2 : PT.pgn (K + 1) + (K + 1) ≤ n
    · rw [← pgl_two n (Nat.lt_succ_self K) h2, sA_app, sA_app, ih, PT.eus, s1]
      have s2 : PT.shf (PT.pgn (K + 1) + (K + 1)) (fun m => PT.pt m m) n = PT.pt (n - (PT.pgn (K + 1) + (K + 1))) (n - (PT.pgn (K + 1) + (K + 1))) := by unfold PT.shf; rw [if_pos h2]
      rw [s2]
      by_cases e : decide ((K + 1) % 2 = 1) = b
      · rw [if_pos e, if_pos (hk.2 e), if_pos (hk.2 e)]; simp only []; omega
      · rw [if_neg e, if_neg (fun q => e (hk.1 q)), if_neg (fun q => e (hk.1 q))]
    · rw [← pgl_not n (K := K) h2, sA_app, ih, PT.eus, s1]
      have s2 : PT.shf (PT.pgn (K + 1) + (K + 1)) (fun m => PT.pt m m) n = 0 := by unfold PT.shf; rw [if_neg h2]
      rw [s2]
      by_cases e : decide ((K + 1) % 2 = 1) = b
      · rw [if_pos e, if_pos (hk.2 e)]; simp only [Nat.add_zero]
      · rw [if_neg e, if_neg (fun q => e (hk.1 q))]
theorem pgl_len (n : Nat) : ∀ K, (pgl n K).length ≤ 2 * K
  | 0 => Nat.le_refl _
  | K + 1 => by
    have := pgl_len n K
    show (pgl n K ++ pg1 n (K + 1)).length ≤ _
    rw [List.length_append]
    unfold pg1
    split <;> simp <;> omega
theorem pgl_le (n : Nat) : ∀ K, (∀ k, k ≤ K → 1 ≤ k → PT.pgn k ≤ n) → ∀ x ∈ pgl n K, 1 ≤ x.1 ∧ x.1 ≤ n
  | 0, _, x, hx => by simp [pgl] at hx
  | K + 1, h, x, hx => by
    have h1 := h (K + 1) (Nat.le_refl _) (by omega)
    have p : 1 ≤ PT.pgn (K + 1) := PT.pgn_lt (show 1 ≤ K + 1 by omega)
    have hx : x ∈ pgl n K ++ pg1 n (K + 1) := hx
    rcases List.mem_append.1 hx with hx | hx
    · exact pgl_le n K (fun k a b => h k (by omega) b) x hx
    · unfold pg1 at hx
      rcases List.mem_cons.1 hx with e | e
      · rw [e]; exact ⟨p, h1⟩
      · by_cases h2 : PT.pgn (K + 1) + (K + 1) ≤ n
        · rw [if_pos h2] at e
          have e := List.mem_singleton.1 e
          rw [e]; exact ⟨by show 1 ≤ PT.pgn (K + 1) + (K + 1); omega, h2⟩
        · rw [if_neg h2] at e; simp at e
theorem sA_bd (n : Nat) (hn : n ≤ 2000) (b : Bool) : ∀ l : List (Nat × Bool), sA n b l ≤ l.length * PT.Yb
  | [] => by simp [sA]
  | x :: l => by
    have ih := sA_bd n hn b l
    have h1 : PT.pt (n - x.1) (n - x.1) < PT.Yb := PT.pt_Y PT.g_last2 (by omega) (by omega)
    unfold sA at ih ⊢
    simp only [List.map_cons, List.sum_cons, List.length_cons, Nat.add_mul, Nat.one_mul]
    split <;> omega
theorem yb_bs : 73 * PT.Yb < Bs ^ 20 := by decide +kernel

theorem LN.put {w : World} {v : Value} {n l : Nat} (h : LN w v n) (ob : Obj) (hne : ∀ a k c, v = .slice (some a) k c → 0 < k → a.block ≠ l) : LN (w.putObj l ob) v n := by
  obtain ⟨k, hk, ⟨aa, g, o, c, e, p, cell, lt⟩, hty⟩ := h
  refine ⟨k, hk, ⟨aa, g, o, c, e, p, fun i hi => ?_, fun hp => by simpa using lt hp⟩, fun a k' c' e' hp => ?_⟩
  · have hp := p (by omega)
    have := hne ⟨g, o, none⟩ _ c (by rw [e, hp]) (by omega)
    rw [World.cell?, World.putObj_heap_other this]; exact cell i hi
  · have := hne a k' c' e' hp
    obtain ⟨arr, fr, hb⟩ := hty a k' c' e' hp
    exact ⟨arr, fr, (World.putObj_heap_other this).trans hb⟩
/-- The row of numbers. -/
def Cts (g o n : Nat) (w : World) : Prop := ∀ j, j < n → ∃ v, w.cell? ⟨g, o + j, none⟩ = some v ∧ LN w v (PT.pt j j)
/-- The boxes while the steps go on. -/
structure NXt (h g o cap n : Nat) (w : World) (pre : List (Nat × Bool)) (W : World) : Prop where
  s : Cl h [.slice (some ⟨g, o, none⟩) n cap] 61 W
  r : Cl (h + 1) [.slice none 0 0] 46 W
  nn : Cl (h + 2) [.int .i64 (n : Int)] 3 W
  a : ∃ v, Cl (h + 3) [v] 46 W ∧ LN W v (sA n true pre) ∧ ∀ a k c, v = .slice (some a) k c → 0 < k → a.block ≠ h + 7
  t : ∃ v, Cl (h + 4) [v] 46 W ∧ LN W v (sA n false pre) ∧ ∀ a k c, v = .slice (some a) k c → 0 < k → a.block ≠ h + 7
  m : Cl (h + 5) [.int .i64 (n : Int)] 3 W
  b : Below h w W
theorem NXt.below {h g o cap n : Nat} {w : World} {pre : List (Nat × Bool)} {W W' : World} (s : NXt h g o cap n w pre W) (k : Below W.heap.size W W') : NXt h g o cap n w pre W' := by
  obtain ⟨v, a1, a2, a3⟩ := s.a
  obtain ⟨u, t1, t2, t3⟩ := s.t
  exact ⟨s.s.below k, s.r.below k, s.nn.below k, ⟨v, a1.below k, a2.below k, a3⟩, ⟨u, t1.below k, t2.below k, t3⟩, s.m.below k, s.b.trans (k.mono (Nat.le_of_lt s.s.lt))⟩
theorem NXt.put {h g o cap n : Nat} {w : World} {pre : List (Nat × Bool)} {W : World} (s : NXt h g o cap n w pre W) (x : Obj) : NXt h g o cap n w pre (W.putObj (h + 7) x) := by
  obtain ⟨v, a1, a2, a3⟩ := s.a
  obtain ⟨u, t1, t2, t3⟩ := s.t
  exact ⟨s.s.put x (by omega), s.r.put x (by omega), s.nn.put x (by omega), ⟨v, a1.put x (by omega), a2.put x a3, a3⟩, ⟨u, t1.put x (by omega), t2.put x t3, t3⟩, s.m.put x (by omega), s.b.grown (grownBy_putObj' W _ x) (Nat.le_of_lt s.s.lt) (fun k e => by cases e; omega)⟩
theorem grS_below {W W' : World} (h : GrS No W W') : Below W.heap.size W W' := ⟨h.os, h.tape, h.output, h.size, fun k hk => h.block k hk (fun e => e)⟩
/-- What a step reads. -/
structure SX (h g o n j cap : Nat) (q : Nat) (va vc : Value) (W : World) : Prop where
  s : W.cell? ⟨h, 0, none⟩ = some (.slice (some ⟨g, o, none⟩) n cap)
  nn : W.cell? ⟨h + 2, 0, none⟩ = some (.int .i64 (n : Int))
  a : W.cell? ⟨h + q, 0, none⟩ = some va
  c : W.cell? ⟨g, o + j, none⟩ = some vc
theorem ln_slice {w : World} {v : Value} {n : Nat} (h : LN w v n) : ∃ a k c, v = .slice a k c := by
  obtain ⟨k, aa, g, o, c, e, _⟩ := h.open
  exact ⟨aa, k, c, e⟩
set_option maxRecDepth 100000 in
set_option maxHeartbeats 8000000 in
theorem nextP_core (g o cap n K : Nat) (w : World) (hn1 : 1 ≤ n) (hn2 : n ≤ 2000) (hg : g < w.heap.size) (h : Cts g o n w) (hK : K ≤ 36) (hlo : ∀ k, k ≤ K → 1 ≤ k → PT.pgn k ≤ n) (hhi : n < PT.pgn (K + 1)) :
    Calls Tryd.prog 38 #[.slice (some ⟨g, o, none⟩) n cap] w fun e w' => ∃ v, e = .returned (.agg #[v]) ∧ LN w' v (PT.pt n n) ∧ Below w.heap.size w w' := by
  have HCt : Hid (Cts g o n w) := h
  have HG : Hid (g < w.heap.size) := hg
  have HSeq : Hid (∀ bb m, 2 ≤ m → YieldsS NoB Fence.wide m Tryd.prog 71 #[.pointer (some ⟨bb, 0, none⟩)] enP (fun W => Cl bb [.int .i64 (n : Int)] 3 W) (pgl n K)) := fun bb m hm => pentagonals_yields n bb K hn2 hK hlo hhi m hm
  have HPe : Hid (∀ w, Calls Tryd.prog 55 #[.int .i64 (n : Int)] w fun e w' => e = .returned (.func (.func 71) #[] #[.pointer (some ⟨w.heap.size, 0, none⟩)]) ∧ w' = w.alloc (.cells #[.int .i64 (n : Int)] 3)) := fun w => pentagonals_any n w
  have HE : Hid (PT.pt n n + sA n false (pgl n K) = sA n true (pgl n K) ∧ sA n true (pgl n K) < Bs ^ 20) := ⟨by rw [sA_pgl n _ K hlo, sA_pgl n _ K hlo]; exact PT.eul_next hn1 hn2 hK hhi, by
    have h1 := sA_bd n hn2 true (pgl n K)
    have h2 := pgl_len n K
    have h3 : (pgl n K).length * PT.Yb ≤ 72 * PT.Yb := Nat.mul_le_mul_right _ (by omega)
    have := yb_bs
    omega⟩
  have HLe : Hid ((∀ x ∈ pgl n K, 1 ≤ x.1 ∧ x.1 ≤ n) ∧ (pgl n K).length ≤ 72) := ⟨pgl_le n K hlo, by have := pgl_len n K; omega⟩
  clear h hg hlo hhi
  refine (callsIn_wide (n := 6)).1 ?_
  refine callsIn_of_wp_marks Tryd.func38 rfl trivial ?_ rfl
  simp only [Tryd.ntmps38, List.size_toArray, List.length_cons, List.length_nil, Nat.reduceAdd, Nat.reduceSub, Array.replicate_succ, Array.replicate_zero, List.push_toArray, List.append_toArray, List.nil_append, List.cons_append]
  obtain ⟨W5, hW5⟩ : ∃ W, W = (((((w.alloc (.cells #[.slice (some ⟨g, o, none⟩) n cap] 61)).alloc (.cells #[.slice none 0 0] 46)).alloc (.cells #[.int .i64 (n : Int)] 3)).alloc (.cells #[.slice none 0 0] 46)).alloc (.cells #[.slice none 0 0] 46)) := ⟨_, rfl⟩
  have z5 : W5.heap.size = w.heap.size + 5 := by rw [hW5]; simp
  have S5 : Cl w.heap.size [.slice (some ⟨g, o, none⟩) n cap] 61 W5 ∧ Cl (w.heap.size + 1) [.slice none 0 0] 46 W5 ∧ Cl (w.heap.size + 2) [.int .i64 (n : Int)] 3 W5 ∧ Cl (w.heap.size + 3) [.slice none 0 0] 46 W5 ∧ Cl (w.heap.size + 4) [.slice none 0 0] 46 W5 ∧ Below w.heap.size w W5 := by
    obtain ⟨A, hA⟩ : ∃ A, A = w.alloc (.cells #[.slice (some ⟨g, o, none⟩) n cap] 61) := ⟨_, rfl⟩
    obtain ⟨B, hB⟩ : ∃ B, B = A.alloc (.cells #[.slice none 0 0] 46) := ⟨_, rfl⟩
    obtain ⟨C, hC⟩ : ∃ C, C = B.alloc (.cells #[.int .i64 (n : Int)] 3) := ⟨_, rfl⟩
    obtain ⟨D, hD⟩ : ∃ D, D = C.alloc (.cells #[.slice none 0 0] 46) := ⟨_, rfl⟩
    rw [← hA, ← hB, ← hC, ← hD] at hW5
    have a1 : Cl w.heap.size [.slice (some ⟨g, o, none⟩) n cap] 61 A := by rw [hA]; exact Cl.new _ _ w
    have zA : A.heap.size = w.heap.size + 1 := by rw [hA]; simp
    have b1 : Cl A.heap.size [.slice none 0 0] 46 B := by rw [hB]; exact Cl.new _ _ A
    have zB : B.heap.size = w.heap.size + 2 := by rw [hB]; simp; omega
    have c1 : Cl B.heap.size [.int .i64 (n : Int)] 3 C := by rw [hC]; exact Cl.new _ _ B
    have zC : C.heap.size = w.heap.size + 3 := by rw [hC]; simp; omega
    have d1 : Cl C.heap.size [.slice none 0 0] 46 D := by rw [hD]; exact Cl.new _ _ C
    have zD : D.heap.size = w.heap.size + 4 := by rw [hD]; simp; omega
    have e1 : Cl D.heap.size [.slice none 0 0] 46 W5 := by rw [hW5]; exact Cl.new _ _ D
    have kA := bel_one w (.cells #[.slice (some ⟨g, o, none⟩) n cap] 61)
    have kB := bel_one A (.cells #[.slice none 0 0] 46)
    have kC := bel_one B (.cells #[.int .i64 (n : Int)] 3)
    have kD := bel_one C (.cells #[.slice none 0 0] 46)
    have kE := bel_one D (.cells #[.slice none 0 0] 46)
    rw [← hA] at kA
    rw [← hB] at kB
    rw [← hC] at kC
    rw [← hD] at kD
    rw [← hW5] at kE
    rw [zA] at b1
    rw [zB] at c1
    rw [zC] at d1
    rw [zD] at e1
    exact ⟨(((a1.below kB).below kC).below kD).below kE, ((b1.below kC).below kD).below kE, (c1.below kD).below kE, d1.below kE, e1, kA.trans ((kB.trans ((kC.trans ((kD.trans (kE.mono (by omega))).mono (by omega))).mono (by omega))).mono (by omega))⟩
  gi_wp2
  rw [← hW5]
  refine ⟨trivial, ?_⟩
  refine (callsIn_wide.2 (HPe.out _)).mono ?_
  rintro e w1 ⟨rfl, hw1⟩
  have z1 : w1.heap.size = w.heap.size + 6 := by rw [hw1, World.size_alloc, z5]
  have k1 : Below W5.heap.size W5 w1 := by rw [hw1]; exact bel_one W5 _
  have C0 : NXt w.heap.size g o cap n w [] w1 := by
    obtain ⟨a1, a2, a3, a4, a5, a6⟩ := S5
    refine ⟨a1.below k1, a2.below k1, a3.below k1, ⟨_, a4.below k1, LN.zero _, fun a k c e => by simp at e⟩, ⟨_, a5.below k1, LN.zero _, fun a k c e => by simp at e⟩, ?_, a6.trans (k1.mono (by omega))⟩
    rw [hw1, ← z5]; exact Cl.new _ _ W5
  rw [z5]
  have y2 : w.heap.size + 1 + 1 = w.heap.size + 2 := rfl
  have y3 : w.heap.size + 2 + 1 = w.heap.size + 3 := rfl
  have y4 : w.heap.size + 3 + 1 = w.heap.size + 4 := rfl
  simp only [y2, y3, y4]
  clear y2 y3 y4 hW5 hw1 z5 S5 k1 W5
  gi_wp2
  refine wpIn_rangeS (A := NoB) rfl (F := Fence.wide) (n := 6) rfl (by decide) (gf := 71) (lb := #[.pointer (some ⟨w.heap.size + 5, 0, none⟩)]) rfl trivial (enters_of Tryd.func71 (by kernel_rfl) rfl) (HSeq.out (w.heap.size + 5) _ (by decide)) (fun x O W vs h => by rw [h]; rfl)
    (fun O pre W => O = No ∧ NXt w.heap.size g o cap n w pre W)
    (fun c O pre W => False)
    ?ab (fun c O O' s W W' _ h _ _ => h.elim) ?abp (fun c O s W ob h => h) (fun O s W h => h.2.m) (fun x O W vs ob s _ h _ => h) ⟨rfl, C0⟩
    (fun vs => { tmps := #[.slice (some ⟨g, o, none⟩) n cap, .pointer (some ⟨w.heap.size, 0, none⟩), .pointer (some ⟨w.heap.size + 1, 0, none⟩), .pointer (some ⟨w.heap.size + 2, 0, none⟩), .pointer (some ⟨w.heap.size + 3, 0, none⟩), .pointer (some ⟨w.heap.size + 4, 0, none⟩), vs.getD 0 undef, vs.getD 1 undef, .slice (some ⟨g, o, none⟩) n cap, .int .i64 (n : Int), .int .i64 (n : Int), .func (.func 71) #[] #[.pointer (some ⟨w.heap.size + 5, 0, none⟩)], vs.getD 0 undef, vs.getD 1 undef, undef, undef, undef, undef, undef, undef, undef, undef, undef, undef, undef, undef, undef, undef, undef, undef, undef, undef, undef, undef], defers := [] }) ?assign ?body ?done ?stop
  case ab =>
    rintro O O' s A B hO' ⟨rfl, h⟩ hg ho
    exact ⟨hO', h.below (grS_below hg)⟩
  case abp => rintro O s A ob ⟨h0, h⟩; exact ⟨h0, by rw [z1]; exact h.put ob⟩
  case assign =>
    intro lp x O vs W K hvs hK
    have hvs : vs = #[.int .i64 (x.1 : Int), .bool x.2] := hvs
    subst hvs
    gi_wp2
    simpa using hK
  case body =>
    rintro lp O pre ⟨x1, x2⟩ vs W hA ⟨hO, hst⟩ hog hpre hz hvs hnl
    have hvs : vs = #[.int .i64 (x1 : Int), .bool x2] := hvs
    subst hvs
    have hx := HLe.out.1 (x1, x2) (hpre.subset (by simp))
    have hpl : pre.length ≤ 72 := by have := hpre.length_le; have := HLe.out.2; simp at *; omega
    have HOn : Hid (O = No) := hO
    simp only [] at hx
    rw [z1] at hnl
    clear hpre hog hO hA hvs
    cases x2
    ·
      obtain ⟨va, A1, A2, A3⟩ := hst.t
      obtain ⟨vc, c1, c2⟩ := HCt.out (n - x1) (by omega)
      have hc1 : W.cell? ⟨g, o + (n - x1), none⟩ = some vc := (hst.b.cell (p := ⟨g, o + (n - x1), none⟩) HG.out).trans c1
      have hc2 : LN W vc (PT.pt (n - x1) (n - x1)) := c2.below hst.b
      obtain ⟨j, hj⟩ : ∃ j, j = n - x1 := ⟨_, rfl⟩
      rw [← hj] at hc1 hc2
      have hsub : (n : Int) - (x1 : Int) = (j : Int) := by omega
      have HWr : Hid (IntKind.i64.wrap (j : Int) = (j : Int)) := by show _ = _; rw [IntKind.wrap_i64]; omega
      have hjn : j < n := by omega
      have hlt : sA n false pre < Bs ^ 20 := by
        have h1 := sA_bd n hn2 false pre
        have h2 : pre.length * PT.Yb ≤ 72 * PT.Yb := Nat.mul_le_mul_right _ hpl
        have := yb_bs
        omega
      have hlc : PT.pt j j < Bs ^ 20 := by
        have h1 : PT.pt j j < PT.Yb := PT.pt_Y PT.g_last2 (by omega) (by omega)
        have := yb_bs
        omega
      obtain ⟨aa1, ka1, ca1, rfl⟩ := ln_slice A2
      obtain ⟨aa2, ka2, ca2, rfl⟩ := ln_slice hc2
      have HPl : Hid (∀ W', Below W.heap.size W W' → Calls Tryd.prog 56 #[.agg #[.slice aa1 ka1 ca1], .agg #[.slice aa2 ka2 ca2]] W' fun e w' => ∃ v, e = .returned (.agg #[v]) ∧ LN w' v (sA n false pre + PT.pt j j) ∧ Below W'.heap.size W' w') := fun W' k => Plus_any _ _ _ _ 20 W' (A2.below k) (hc2.below k) hlt hlc (by omega)
      have HSA : Hid (sA n false (pre ++ [(x1, false)]) = sA n false pre + PT.pt j j ∧ sA n (!false) (pre ++ [(x1, false)]) = sA n (!false) pre) := by
        show _ ∧ _
        rw [sA_app, sA_app, if_pos rfl, if_neg (by simp), hj]; exact ⟨rfl, rfl⟩
      have HST : Hid (NXt w.heap.size g o cap n w pre W) := hst
      have HA1 : Hid (Cl (w.heap.size + 4) [.slice aa1 ka1 ca1] 46 W) := A1
      have HNl : Hid (∀ arr t fr, W.heap[w.heap.size + 7]? ≠ some (.cells arr t fr)) := hnl
      have hsx : SX w.heap.size g o n j cap 4 (.slice aa1 ka1 ca1) (.slice aa2 ka2 ca2) W.drew := ⟨hst.s.cell 0, hst.nn.cell 0, A1.cell 0, hc1⟩
      clear hst A1 A2 A3 c1 c2 hc1 hc2 hlt hlc hnl hj
      gi_wp2
      refine wpIn_region_G (SX w.heap.size g o n j cap 4 (.slice aa1 ka1 ca1) (.slice aa2 ka2 ca2)) 8 (by kernel_rfl) hsx (fun hHeld => ?_)
      refine wpAnyGIn_take (i := 0) (v := ?v0x1) rfl (by kernel_rfl) (fun _ _ _ h => h) (Or.inl ⟨by rfl, ?y0x1⟩) hHeld ?r0x1
      case y0x1 => (intro wS hSw; obtain ⟨s1, s2, s3, s4⟩ := hSw; go_simp; try with_reducible rfl)
      simp only [Act.put, List.getElem_toArray, List.getElem_cons_zero, List.getElem_cons_succ, List.setIfInBounds_toArray, List.set_cons_zero, List.set_cons_succ]
      refine wpAnyGIn_take (i := 1) (v := ?v1x2) rfl (by kernel_rfl) (fun _ _ _ h => h) (Or.inl ⟨by rfl, ?y1x2⟩) hHeld ?r1x2
      case y1x2 => (intro wS hSw; obtain ⟨s1, s2, s3, s4⟩ := hSw; go_simp; try with_reducible rfl)
      simp only [Act.put, List.getElem_toArray, List.getElem_cons_zero, List.getElem_cons_succ, List.setIfInBounds_toArray, List.set_cons_zero, List.set_cons_succ]
      refine wpAnyGIn_take (i := 2) (v := ?v2x3) rfl (by kernel_rfl) (fun _ _ _ h => h) (Or.inl ⟨by rfl, ?y2x3⟩) hHeld ?r2x3
      case y2x3 => (intro wS hSw; obtain ⟨s1, s2, s3, s4⟩ := hSw; go_simp; try with_reducible rfl)
      simp only [Act.put, List.getElem_toArray, List.getElem_cons_zero, List.getElem_cons_succ, List.setIfInBounds_toArray, List.set_cons_zero, List.set_cons_succ]
      refine wpAnyGIn_take (i := 3) (v := ?v3x4) rfl (by kernel_rfl) (fun _ _ _ h => h) (Or.inl ⟨by rfl, ?y3x4⟩) hHeld ?r3x4
      case y3x4 => (intro wS hSw; obtain ⟨s1, s2, s3, s4⟩ := hSw; go_simp; try with_reducible rfl)
      simp only [Act.put, List.getElem_toArray, List.getElem_cons_zero, List.getElem_cons_succ, List.setIfInBounds_toArray, List.set_cons_zero, List.set_cons_succ]
      refine wpAnyGIn_take (i := 4) (v := .int .i64 (j : Int)) rfl (by kernel_rfl) (fun _ _ _ h => h) (Or.inl ⟨by kernel_rfl, ?y4x5⟩) hHeld ?r4x5
      case y4x5 => (intro wS hSw; obtain ⟨s1, s2, s3, s4⟩ := hSw; go_simp; exact HWr.out)
      simp only [Act.put, List.getElem_toArray, List.getElem_cons_zero, List.getElem_cons_succ, List.setIfInBounds_toArray, List.set_cons_zero, List.set_cons_succ]
      refine wpAnyGIn_take (i := 5) (v := .pointer (some ⟨g, o + j, none⟩)) rfl (by kernel_rfl) (fun _ _ _ h => h) (Or.inl ⟨by kernel_rfl, ?y5x6⟩) hHeld ?r5x6
      case y5x6 => (intro wS hSw; obtain ⟨s1, s2, s3, s4⟩ := hSw; go_simp)
      simp only [Act.put, List.getElem_toArray, List.getElem_cons_zero, List.getElem_cons_succ, List.setIfInBounds_toArray, List.set_cons_zero, List.set_cons_succ]
      refine wpAnyGIn_take (i := 6) (v := .agg #[.slice aa2 ka2 ca2]) rfl (by kernel_rfl) (fun _ _ _ h => h) (Or.inl ⟨by kernel_rfl, ?y6x7⟩) hHeld ?r6x7
      case y6x7 => (intro wS hSw; obtain ⟨s1, s2, s3, s4⟩ := hSw; go_simp)
      simp only [Act.put, List.getElem_toArray, List.getElem_cons_zero, List.getElem_cons_succ, List.setIfInBounds_toArray, List.set_cons_zero, List.set_cons_succ]
      refine wpAnyGIn_one (i := 7) rfl (by kernel_rfl) (fun K hK => ?_)
      go_simp
      refine ⟨trivial, ?_⟩
      refine (calls_rnd (HPl.out _ (Below.drew (Below.refl _ _)))).mono ?_
      rintro e w2 ⟨v, rfl, hv, k2⟩
      have K2 : Below W.heap.size W w2 := (Below.drew (Below.refl W.heap.size W)).trans (k2.mono (Nat.le_refl _))
      obtain ⟨av, kv, cv, rfl⟩ := ln_slice hv
      have HNv : Hid (∀ a k c, (Value.slice av kv cv) = .slice (some a) k c → 0 < k → a.block ≠ w.heap.size + 7) := by
        intro a k c e hk0
        simp only [Value.slice.injEq] at e
        obtain ⟨rfl, rfl, rfl⟩ := e
        intro hb
        obtain ⟨arr, fr, hT⟩ := (hv.choose_spec.2.2) a kv cv rfl hk0
        rw [hb] at hT
        have : w.heap.size + 7 < W.heap.size := by omega
        rw [K2.block _ this] at hT
        exact HNl.out _ _ _ hT
      have HA2 : Hid (Cl (w.heap.size + 4) [.slice aa1 ka1 ca1] 46 w2) := HA1.out.below K2
      have HX2 : Hid (NXt w.heap.size g o cap n w pre w2 ∧ LN w2 (.slice av kv cv) (sA n false pre + PT.pt j j) ∧ Below W.heap.size W w2) := ⟨HST.out.below K2, hv, K2⟩
      have hs2 : SX w.heap.size g o n j cap 4 (.slice aa1 ka1 ca1) (.slice aa2 ka2 ca2) w2 := ⟨((HST.out.s.below K2).cell 0), (HST.out.nn.below K2).cell 0, HA2.out.cell 0, (K2.cell (p := ⟨g, o + j, none⟩) (Nat.lt_of_lt_of_le HG.out (Nat.le_trans HST.out.b.size (Nat.le_refl _)))).trans hsx.c⟩
      refine hK.out _ _ hs2 ?_
      clear hK K
      clear hHeld hsx k2 hv K2
      have f0 := HA2.out.frozen 0
      have f1 := HA2.out.cell 0
      simp only [List.getElem?_cons_zero] at f1
      refine wpAnyGIn_last (i := 8) rfl (by kernel_rfl) (by kernel_rfl) (fun K hK => ?_)
      go_simp
      refine hK.out _ _ ?_
      clear hK K
      refine wpAnyGIn_done (by kernel_rfl) ?_ _
      gi_wp2
      have hlw : w.heap.size + 6 ≤ W.heap.size := by omega
      have hNK : ¬ keptS w1.heap.size O (w.heap.size + 4) := by
        rintro (e | e | e)
        · omega
        · omega
        · rw [HOn.out] at e; exact e
      refine ⟨((KP.refl _ W).below HX2.out.2.2).setCell hNK _, HOn.out, ?_⟩
      have hX := HX2.out.1
      have hSx := HSA.out
      rw [show (!false) = true from rfl] at hSx
      have hO1 := fun {b : Nat} {c : List Value} {ty : TypeId} (hc : Cl b c ty w2) (hne : b ≠ w.heap.size + 4) => hc.other (p := ⟨w.heap.size + 4, 0, none⟩) hne (.slice av kv cv)
      obtain ⟨ov, o1, o2, o3⟩ := hX.a
      have hnew : ∃ v, Cl (w.heap.size + 4) [v] 46 (w2.setCell ⟨w.heap.size + 4, 0, none⟩ (.slice av kv cv)) ∧ LN (w2.setCell ⟨w.heap.size + 4, 0, none⟩ (.slice av kv cv)) v (sA n false (pre ++ [(x1, false)])) ∧ ∀ a k c, v = .slice (some a) k c → 0 < k → a.block ≠ w.heap.size + 7 := ⟨.slice av kv cv, HA2.out.set 0 _, by rw [hSx.1]; exact HX2.out.2.1.set HA2.out _, HNv.out⟩
      have hold : ∃ v, Cl (w.heap.size + 3) [v] 46 (w2.setCell ⟨w.heap.size + 4, 0, none⟩ (.slice av kv cv)) ∧ LN (w2.setCell ⟨w.heap.size + 4, 0, none⟩ (.slice av kv cv)) v (sA n true (pre ++ [(x1, false)])) ∧ ∀ a k c, v = .slice (some a) k c → 0 < k → a.block ≠ w.heap.size + 7 := ⟨ov, hO1 o1 (by omega), by rw [hSx.2]; exact o2.set HA2.out _, o3⟩
      exact ⟨hO1 hX.s (by omega), hO1 hX.r (by omega), hO1 hX.nn (by omega), hold, hnew, hO1 hX.m (by omega), hX.b.setCell (by simp) _⟩
    ·
      obtain ⟨va, A1, A2, A3⟩ := hst.a
      obtain ⟨vc, c1, c2⟩ := HCt.out (n - x1) (by omega)
      have hc1 : W.cell? ⟨g, o + (n - x1), none⟩ = some vc := (hst.b.cell (p := ⟨g, o + (n - x1), none⟩) HG.out).trans c1
      have hc2 : LN W vc (PT.pt (n - x1) (n - x1)) := c2.below hst.b
      obtain ⟨j, hj⟩ : ∃ j, j = n - x1 := ⟨_, rfl⟩
      rw [← hj] at hc1 hc2
      have hsub : (n : Int) - (x1 : Int) = (j : Int) := by omega
      have HWr : Hid (IntKind.i64.wrap (j : Int) = (j : Int)) := by show _ = _; rw [IntKind.wrap_i64]; omega
      have hjn : j < n := by omega
      have hlt : sA n true pre < Bs ^ 20 := by
        have h1 := sA_bd n hn2 true pre
        have h2 : pre.length * PT.Yb ≤ 72 * PT.Yb := Nat.mul_le_mul_right _ hpl
        have := yb_bs
        omega
      have hlc : PT.pt j j < Bs ^ 20 := by
        have h1 : PT.pt j j < PT.Yb := PT.pt_Y PT.g_last2 (by omega) (by omega)
        have := yb_bs
        omega
      obtain ⟨aa1, ka1, ca1, rfl⟩ := ln_slice A2
      obtain ⟨aa2, ka2, ca2, rfl⟩ := ln_slice hc2
      have HPl : Hid (∀ W', Below W.heap.size W W' → Calls Tryd.prog 56 #[.agg #[.slice aa1 ka1 ca1], .agg #[.slice aa2 ka2 ca2]] W' fun e w' => ∃ v, e = .returned (.agg #[v]) ∧ LN w' v (sA n true pre + PT.pt j j) ∧ Below W'.heap.size W' w') := fun W' k => Plus_any _ _ _ _ 20 W' (A2.below k) (hc2.below k) hlt hlc (by omega)
      have HSA : Hid (sA n true (pre ++ [(x1, true)]) = sA n true pre + PT.pt j j ∧ sA n (!true) (pre ++ [(x1, true)]) = sA n (!true) pre) := by
        show _ ∧ _
        rw [sA_app, sA_app, if_pos rfl, if_neg (by simp), hj]; exact ⟨rfl, rfl⟩
      have HST : Hid (NXt w.heap.size g o cap n w pre W) := hst
      have HA1 : Hid (Cl (w.heap.size + 3) [.slice aa1 ka1 ca1] 46 W) := A1
      have HNl : Hid (∀ arr t fr, W.heap[w.heap.size + 7]? ≠ some (.cells arr t fr)) := hnl
      have hsx : SX w.heap.size g o n j cap 3 (.slice aa1 ka1 ca1) (.slice aa2 ka2 ca2) W.drew := ⟨hst.s.cell 0, hst.nn.cell 0, A1.cell 0, hc1⟩
      clear hst A1 A2 A3 c1 c2 hc1 hc2 hlt hlc hnl hj
      gi_wp2
      refine wpIn_region_G (SX w.heap.size g o n j cap 3 (.slice aa1 ka1 ca1) (.slice aa2 ka2 ca2)) 8 (by kernel_rfl) hsx (fun hHeld => ?_)
      refine wpAnyGIn_take (i := 0) (v := ?v0x8) rfl (by kernel_rfl) (fun _ _ _ h => h) (Or.inl ⟨by rfl, ?y0x8⟩) hHeld ?r0x8
      case y0x8 => (intro wS hSw; obtain ⟨s1, s2, s3, s4⟩ := hSw; go_simp; try with_reducible rfl)
      simp only [Act.put, List.getElem_toArray, List.getElem_cons_zero, List.getElem_cons_succ, List.setIfInBounds_toArray, List.set_cons_zero, List.set_cons_succ]
      refine wpAnyGIn_take (i := 1) (v := ?v1x9) rfl (by kernel_rfl) (fun _ _ _ h => h) (Or.inl ⟨by rfl, ?y1x9⟩) hHeld ?r1x9
      case y1x9 => (intro wS hSw; obtain ⟨s1, s2, s3, s4⟩ := hSw; go_simp; try with_reducible rfl)
      simp only [Act.put, List.getElem_toArray, List.getElem_cons_zero, List.getElem_cons_succ, List.setIfInBounds_toArray, List.set_cons_zero, List.set_cons_succ]
      refine wpAnyGIn_take (i := 2) (v := ?v2x10) rfl (by kernel_rfl) (fun _ _ _ h => h) (Or.inl ⟨by rfl, ?y2x10⟩) hHeld ?r2x10
      case y2x10 => (intro wS hSw; obtain ⟨s1, s2, s3, s4⟩ := hSw; go_simp; try with_reducible rfl)
      simp only [Act.put, List.getElem_toArray, List.getElem_cons_zero, List.getElem_cons_succ, List.setIfInBounds_toArray, List.set_cons_zero, List.set_cons_succ]
      refine wpAnyGIn_take (i := 3) (v := ?v3x11) rfl (by kernel_rfl) (fun _ _ _ h => h) (Or.inl ⟨by rfl, ?y3x11⟩) hHeld ?r3x11
      case y3x11 => (intro wS hSw; obtain ⟨s1, s2, s3, s4⟩ := hSw; go_simp; try with_reducible rfl)
      simp only [Act.put, List.getElem_toArray, List.getElem_cons_zero, List.getElem_cons_succ, List.setIfInBounds_toArray, List.set_cons_zero, List.set_cons_succ]
      refine wpAnyGIn_take (i := 4) (v := .int .i64 (j : Int)) rfl (by kernel_rfl) (fun _ _ _ h => h) (Or.inl ⟨by kernel_rfl, ?y4x12⟩) hHeld ?r4x12
      case y4x12 => (intro wS hSw; obtain ⟨s1, s2, s3, s4⟩ := hSw; go_simp; exact HWr.out)
      simp only [Act.put, List.getElem_toArray, List.getElem_cons_zero, List.getElem_cons_succ, List.setIfInBounds_toArray, List.set_cons_zero, List.set_cons_succ]
      refine wpAnyGIn_take (i := 5) (v := .pointer (some ⟨g, o + j, none⟩)) rfl (by kernel_rfl) (fun _ _ _ h => h) (Or.inl ⟨by kernel_rfl, ?y5x13⟩) hHeld ?r5x13
      case y5x13 => (intro wS hSw; obtain ⟨s1, s2, s3, s4⟩ := hSw; go_simp)
      simp only [Act.put, List.getElem_toArray, List.getElem_cons_zero, List.getElem_cons_succ, List.setIfInBounds_toArray, List.set_cons_zero, List.set_cons_succ]
      refine wpAnyGIn_take (i := 6) (v := .agg #[.slice aa2 ka2 ca2]) rfl (by kernel_rfl) (fun _ _ _ h => h) (Or.inl ⟨by kernel_rfl, ?y6x14⟩) hHeld ?r6x14
      case y6x14 => (intro wS hSw; obtain ⟨s1, s2, s3, s4⟩ := hSw; go_simp)
      simp only [Act.put, List.getElem_toArray, List.getElem_cons_zero, List.getElem_cons_succ, List.setIfInBounds_toArray, List.set_cons_zero, List.set_cons_succ]
      refine wpAnyGIn_one (i := 7) rfl (by kernel_rfl) (fun K hK => ?_)
      go_simp
      refine ⟨trivial, ?_⟩
      refine (calls_rnd (HPl.out _ (Below.drew (Below.refl _ _)))).mono ?_
      rintro e w2 ⟨v, rfl, hv, k2⟩
      have K2 : Below W.heap.size W w2 := (Below.drew (Below.refl W.heap.size W)).trans (k2.mono (Nat.le_refl _))
      obtain ⟨av, kv, cv, rfl⟩ := ln_slice hv
      have HNv : Hid (∀ a k c, (Value.slice av kv cv) = .slice (some a) k c → 0 < k → a.block ≠ w.heap.size + 7) := by
        intro a k c e hk0
        simp only [Value.slice.injEq] at e
        obtain ⟨rfl, rfl, rfl⟩ := e
        intro hb
        obtain ⟨arr, fr, hT⟩ := (hv.choose_spec.2.2) a kv cv rfl hk0
        rw [hb] at hT
        have : w.heap.size + 7 < W.heap.size := by omega
        rw [K2.block _ this] at hT
        exact HNl.out _ _ _ hT
      have HA2 : Hid (Cl (w.heap.size + 3) [.slice aa1 ka1 ca1] 46 w2) := HA1.out.below K2
      have HX2 : Hid (NXt w.heap.size g o cap n w pre w2 ∧ LN w2 (.slice av kv cv) (sA n true pre + PT.pt j j) ∧ Below W.heap.size W w2) := ⟨HST.out.below K2, hv, K2⟩
      have hs2 : SX w.heap.size g o n j cap 3 (.slice aa1 ka1 ca1) (.slice aa2 ka2 ca2) w2 := ⟨((HST.out.s.below K2).cell 0), (HST.out.nn.below K2).cell 0, HA2.out.cell 0, (K2.cell (p := ⟨g, o + j, none⟩) (Nat.lt_of_lt_of_le HG.out (Nat.le_trans HST.out.b.size (Nat.le_refl _)))).trans hsx.c⟩
      refine hK.out _ _ hs2 ?_
      clear hK K
      clear hHeld hsx k2 hv K2
      have f0 := HA2.out.frozen 0
      have f1 := HA2.out.cell 0
      simp only [List.getElem?_cons_zero] at f1
      refine wpAnyGIn_last (i := 8) rfl (by kernel_rfl) (by kernel_rfl) (fun K hK => ?_)
      go_simp
      refine hK.out _ _ ?_
      clear hK K
      refine wpAnyGIn_done (by kernel_rfl) ?_ _
      gi_wp2
      have hlw : w.heap.size + 6 ≤ W.heap.size := by omega
      have hNK : ¬ keptS w1.heap.size O (w.heap.size + 3) := by
        rintro (e | e | e)
        · omega
        · omega
        · rw [HOn.out] at e; exact e
      refine ⟨((KP.refl _ W).below HX2.out.2.2).setCell hNK _, HOn.out, ?_⟩
      have hX := HX2.out.1
      have hSx := HSA.out
      rw [show (!true) = false from rfl] at hSx
      have hO1 := fun {b : Nat} {c : List Value} {ty : TypeId} (hc : Cl b c ty w2) (hne : b ≠ w.heap.size + 3) => hc.other (p := ⟨w.heap.size + 3, 0, none⟩) hne (.slice av kv cv)
      obtain ⟨ov, o1, o2, o3⟩ := hX.t
      have hnew : ∃ v, Cl (w.heap.size + 3) [v] 46 (w2.setCell ⟨w.heap.size + 3, 0, none⟩ (.slice av kv cv)) ∧ LN (w2.setCell ⟨w.heap.size + 3, 0, none⟩ (.slice av kv cv)) v (sA n true (pre ++ [(x1, true)])) ∧ ∀ a k c, v = .slice (some a) k c → 0 < k → a.block ≠ w.heap.size + 7 := ⟨.slice av kv cv, HA2.out.set 0 _, by rw [hSx.1]; exact HX2.out.2.1.set HA2.out _, HNv.out⟩
      have hold : ∃ v, Cl (w.heap.size + 4) [v] 46 (w2.setCell ⟨w.heap.size + 3, 0, none⟩ (.slice av kv cv)) ∧ LN (w2.setCell ⟨w.heap.size + 3, 0, none⟩ (.slice av kv cv)) v (sA n false (pre ++ [(x1, true)])) ∧ ∀ a k c, v = .slice (some a) k c → 0 < k → a.block ≠ w.heap.size + 7 := ⟨ov, hO1 o1 (by omega), by rw [hSx.2]; exact o2.set HA2.out _, o3⟩
      exact ⟨hO1 hX.s (by omega), hO1 hX.r (by omega), hO1 hX.nn (by omega), hnew, hold, hO1 hX.m (by omega), hX.b.setCell (by simp) _⟩
  case done =>
    rintro O W hO ⟨_, hst⟩ hK
    obtain ⟨va, A1, A2, A3⟩ := hst.a
    obtain ⟨vt, B1, B2, B3⟩ := hst.t
    have hE := HE.out
    obtain ⟨aa1, ka1, ca1, rfl⟩ := ln_slice A2
    obtain ⟨aa2, ka2, ca2, rfl⟩ := ln_slice B2
    have HMi : Hid (Calls Tryd.prog 57 #[.agg #[.slice aa1 ka1 ca1], .agg #[.slice aa2 ka2 ca2]] W fun e w' => ∃ v, e = .returned (.agg #[v]) ∧ LN w' v (PT.pt n n) ∧ Below W.heap.size W w') := by
      have := NMinus_any _ _ _ _ 20 W A2 B2 hE.2 (by omega) (by omega)
      rw [show sA n true (pgl n K) - sA n false (pgl n K) = PT.pt n n by omega] at this
      exact this
    have q1 := A1.cell 0
    have q2 := B1.cell 0
    simp only [List.getElem?_cons_zero] at q1 q2
    have HST : Hid (Cl (w.heap.size + 1) [.slice none 0 0] 46 W ∧ Below w.heap.size w W) := ⟨hst.r, hst.b⟩
    rw [z1] at hK
    have HK : Hid (W.heap[w.heap.size + 6]? = some (.deferred (some []))) := hK
    clear hst A1 A2 A3 B1 B2 B3 hE hK
    gi_wp2
    refine ⟨trivial, ?_⟩
    refine (callsIn_wide.2 HMi.out).mono ?_
    rintro e w2 ⟨v, rfl, hv, k2⟩
    obtain ⟨av, kv, cv, rfl⟩ := ln_slice hv
    have HR2 : Hid (Cl (w.heap.size + 1) [.slice none 0 0] 46 w2 ∧ Below w.heap.size w w2 ∧ LN w2 (.slice av kv cv) (PT.pt n n) ∧ w2.heap[w.heap.size + 6]? = some (.deferred (some []))) := ⟨HST.out.1.below k2, HST.out.2.trans (k2.mono HST.out.2.size), hv, (k2.block _ (Array.getElem?_eq_some_iff.1 HK.out).1).trans HK.out⟩
    have HNb : Hid (∀ a k c, (Value.slice av kv cv) = .slice (some a) k c → 0 < k → a.block ≠ w.heap.size + 6) := by
      intro a k c e hk0
      simp only [Value.slice.injEq] at e
      obtain ⟨rfl, rfl, rfl⟩ := e
      intro hb
      obtain ⟨arr, fr, hT⟩ := (hv.choose_spec.2.2) a kv cv rfl hk0
      rw [hb, HR2.out.2.2.2] at hT
      cases hT
    have f0 := HR2.out.1.frozen 0
    have f1 := HR2.out.1.cell 0
    simp only [List.getElem?_cons_zero] at f1
    clear hv k2 HMi q1 q2 HST HK
    gi_wp2
    have hC2 := HR2.out.1.set 0 (.slice av kv cv)
    have hL2 := HR2.out.2.2.1.set HR2.out.1 (.slice av kv cv)
    have hk : (w2.setCell ⟨w.heap.size + 1, 0, none⟩ (.slice av kv cv)).heap[w.heap.size + 6]? = some (.deferred (some [])) := (Below.heap_setCell _ _ _ _ (by simp)).trans HR2.out.2.2.2
    have hB2 : Below w.heap.size w (w2.setCell ⟨w.heap.size + 1, 0, none⟩ (.slice av kv cv)) := HR2.out.2.1.setCell (by simp) _
    have hc3 := (hC2.put (.deferred none) (show w.heap.size + 1 ≠ w.heap.size + 6 by omega)).cell 0
    simp only [List.set_cons_zero, List.getElem?_cons_zero] at hc3
    refine ⟨by simp, .inl ⟨_, _, rfl, run_takeDeferred hk, ?_⟩⟩
    exact ⟨.agg #[.slice av kv cv], by simp [results, Tryd.results38, go_sem, hc3], _, rfl, hL2.put _ HNb.out, hB2.grown (grownBy_putObj' _ _ _) hB2.size (fun k e => by cases e; omega)⟩
  case stop =>
    rintro c O pre W hf
    exact hf.elim

end Go.Proofs.YtmifenflbaohnaaDoor
