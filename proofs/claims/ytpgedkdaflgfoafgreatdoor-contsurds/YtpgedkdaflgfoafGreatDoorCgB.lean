/- The program: cont.part's iterator. -/
import Derived.Test.YtpgedkdaflgfoafGreatDoorCgA
import Derived.Test.YtpgedkdaflgfoafGreatDoorRangeE
import Derived.Test.YtpgedkdaflgfoafGreatDoorJoinG
import Derived.Sort.LoopGhostIn
set_option linter.unusedSimpArgs false
set_option linter.unusedVariables false
set_option maxRecDepth 100000
namespace Go.Proofs.YtpgedkdaflgfoafGreatDoor
open Go.RowKit

/-- One step of the list: what next asks, and answers. -/
structure Nx (d r p q P Q : Nat) : Prop where
  hd : d ≤ 1000000000
  hp : p ≤ 1000000
  hr : r ≤ 1000000
  hq : 1 ≤ q
  hq2 : q ≤ 1000000
  hP : P ≤ 1000000
  he : P + p = (p + r) / q * q
  hPP : P * P ≤ d
  hQ : (d - P * P) / q = Q
theorem Nx.call {d r p q P Q : Nat} (h : Nx d r p q P Q) (w : World) : Calls Tryz.prog 80 #[sgv d r p q] w fun e w' => e = .returned (sgv d r P Q) ∧ Below w.heap.size w w' :=
  next_any d r p q P Q w h.hd h.hp h.hr h.hq h.hq2 h.hP h.he h.hPP h.hQ

/-- What comes behind (p0 + root) / q0, one after the other. -/
structure Sq (d r p0 q0 : Nat) (t : Nat → Nat × Nat) : Prop where
  first : Nx d r p0 q0 (t 0).1 (t 0).2
  step : ∀ i, Nx d r (t i).1 (t i).2 (t (i + 1)).1 (t (i + 1)).2
def kth (r : Nat) (t : Nat → Nat × Nat) (i : Nat) : Nat := ((t i).1 + r) / (t i).2
def kl (r : Nat) (t : Nat → Nat × Nat) (n : Nat) : List Nat := (List.range n).map (kth r t)
theorem kl_succ (r : Nat) (t : Nat → Nat × Nat) (n : Nat) : kl r t (n + 1) = kl r t n ++ [kth r t n] := by simp [kl, List.range_succ]
theorem kl_len (r : Nat) (t : Nat → Nat × Nat) (n : Nat) : (kl r t n).length = n := by simp [kl]
theorem kl_prefix (r : Nat) (t : Nat → Nat × Nat) {m n : Nat} (h : m ≤ n) : kl r t m <+: kl r t n := by
  induction n with
  | zero => obtain rfl : m = 0 := by omega
            exact List.prefix_refl _
  | succ n ih =>
    by_cases e : m = n + 1
    · subst e; exact List.prefix_refl _
    · rw [kl_succ]; exact (ih (by omega)).trans (List.prefix_append _ _)
theorem kl_prefix_len (r : Nat) (t : Nat → Nat × Nat) {n : Nat} {pre : List Nat} (h : pre <+: kl r t n) : pre = kl r t pre.length := by
  have h1 := h.length_le
  rw [kl_len] at h1
  exact List.IsPrefix.eq_of_length (List.prefix_of_prefix_length_le h (kl_prefix r t h1) (by rw [kl_len]; exact Nat.le_refl _)) (by rw [kl_len])

theorem grownBy_below {W W' : World} (h : Below W.heap.size W W') (o : Option Nat) : W.grownBy W' o := ⟨h.os, h.tape, h.output, h.size, fun k hk _ => h.block k hk⟩

theorem grownBy_setCell (w : World) (g o : Nat) (v : Value) : w.grownBy (w.setCell ⟨g, o, none⟩ v) (some g) :=
  ⟨rfl, rfl, rfl, by simp [World.setCell], fun k _ hk => Below.heap_setCell _ _ _ _ (fun e => hk (by simp [e]))⟩

set_option maxHeartbeats 4000000 in
theorem part_yields (d r p0 q0 b N : Nat) (t : Nat → Nat × Nat) (hs : Sq d r p0 q0 t) (fin : Bool) (hN : 1 ≤ N) (hf : fin = true → (t (N - 1)).2 = q0) (hne : ∀ i, i < N - 1 → (t i).2 ≠ q0) (hnf : fin = false → (t (N - 1)).2 ≠ q0) (n : Nat) (hn : 2 ≤ n) :
    YieldsE Fence.wide n Tryz.prog 103 #[.pointer (some ⟨b, 0, none⟩)] (fun x : Nat => #[.int .i64 (x : Int)]) (fun W => Cl b (sgc d r p0 q0) 77 W) (kl r t N) fin := by
  intro l J Jx W hJ hC hY hend h0
  have HY : Hid (∀ (o : Option Nat) (pre : List Nat) (x : Nat) (W1 : World), J o pre W1 → (∀ g, o = some g → W.heap.size ≤ g ∧ g < W1.heap.size) → W.heap.size ≤ W1.heap.size → pre ++ [x] <+: kl r t N → YieldAt Fence.wide (n - 1) Tryz.prog l #[.int .i64 (x : Int)] W1 fun e W' =>
      (e = .returned (.bool true) ∧ J o (pre ++ [x]) W' ∧ W1.heap.size ≤ W'.heap.size ∧ ∀ g, o = some g → W'.heap[g]? = W1.heap[g]?) ∨ (e = .returned (.bool false) ∧ Jx o (pre ++ [x]) W')) := hY
  have HJ : Hid (AbE J) := hJ
  have HC : Hid (∀ o s W1, J o s W1 → Cl b (sgc d r p0 q0) 77 W1) := hC
  have HEnd : Hid (fin = false → ∀ o W1, J o (kl r t N) W1 → False) := hend
  have H0 : Hid (J none [] W) := h0
  have HS : Hid (Sq d r p0 q0 t) := hs
  have HF : Hid (fin = true → (t (N - 1)).2 = q0) := hf
  have HNE : Hid (∀ i, i < N - 1 → (t i).2 ≠ q0) := hne
  have HNF : Hid (fin = false → (t (N - 1)).2 ≠ q0) := hnf
  clear hY hJ hend hs hf hne hnf hC
  have HNx0 : Hid (∀ W, Calls Tryz.prog 80 #[.agg #[.int .i64 (d : Int), .int .i64 (r : Int), .int .i64 (p0 : Int), .int .i64 (q0 : Int)]] W fun e w' => e = .returned (.agg #[.int .i64 (d : Int), .int .i64 (r : Int), .int .i64 ((t 0).1 : Int), .int .i64 ((t 0).2 : Int)]) ∧ Below W.heap.size W w') := fun W => HS.out.first.call W
  obtain ⟨c0, c1, c2, c3⟩ := s4c_of (HC.out _ _ _ h0)
  clear h0
  refine callsIn_of_wp Tryz.func103 rfl trivial ?_ rfl
  simp only [Tryz.ntmps103, List.size_toArray, List.length_cons, List.length_nil, Nat.reduceAdd, Nat.reduceSub, Array.replicate_succ, Array.replicate_zero, List.push_toArray, List.append_toArray, List.nil_append, List.cons_append]
  gi_wp2
  refine ⟨trivial, fun _ => by omega, ?_⟩
  refine (callsIn_wide.2 (HNx0.out W)).mono ?_
  rintro e w1 ⟨rfl, k1⟩
  have HJ1 : Hid (J none [] w1) := HJ.out _ _ _ _ _ H0.out (grownBy_below k1 none) (.inl rfl)
  have z1 := k1.size
  clear k1 c0 c1 c2 c3 HNx0
  gi_wp2
  have HJ2 : Hid (J (some w1.heap.size) [] (w1.alloc (.cells #[.int .i64 (d : Int), .int .i64 (r : Int), .int .i64 ((t 0).1 : Int), .int .i64 ((t 0).2 : Int)] 77))) :=
    HJ.out _ _ _ _ _ HJ1.out (World.grownBy_alloc _ _ none) (.inr ⟨_, rfl, Nat.le_refl _⟩)
  have HC2 : Hid (Cl w1.heap.size (sgc d r (t 0).1 (t 0).2) 77 (w1.alloc (.cells #[.int .i64 (d : Int), .int .i64 (r : Int), .int .i64 ((t 0).1 : Int), .int .i64 ((t 0).2 : Int)] 77))) := Cl.new (sgc d r (t 0).1 (t 0).2) _ w1
  gi_loopg [3] N (fun k pv wx => ∃ (i g : Nat), pv = .pointer (some ⟨g, 0, none⟩) ∧ i + k = N ∧ 1 ≤ k ∧ Hid (J (some g) (kl r t i) wx ∧ Cl g (sgc d r (t i).1 (t i).2) 77 wx ∧ W.heap.size ≤ g))
  case atStart => exact ⟨0, w1.heap.size, rfl, by omega, hN, HJ2.out, HC2.out, z1⟩
  case round =>
    clear HJ2 HC2 HJ1 H0
    obtain ⟨i, g, rfl, hik, hk1, HR⟩ := hrel
    have hC := HC.out _ _ _ HR.out.1
    obtain ⟨p, hp⟩ : ∃ p, p = (t i).1 := ⟨_, rfl⟩
    obtain ⟨q, hq⟩ : ∃ q, q = (t i).2 := ⟨_, rfl⟩
    have hCg := HR.out.2.1
    rw [← hp, ← hq] at hCg
    have hgl := hCg.lt
    have hn1 := HS.out.step i
    rw [← hp, ← hq] at hn1
    have HQt : Hid (∀ W, Calls Tryz.prog 44 #[.agg #[.int .i64 (d : Int), .int .i64 (r : Int), .int .i64 (p : Int), .int .i64 (q : Int)]] W fun e w' => e = .returned (.int .i64 ((kth r t i : Nat) : Int)) ∧ Below W.heap.size W w') := fun W => by
      have := quotient_any d r p q W (by have := hn1.hp; omega) (by have := hn1.hr; omega) hn1.hq (by have := hn1.hq2; omega)
      unfold kth; rw [← hp, ← hq]; exact this
    have HP : Hid (p = (t i).1) := hp
    have HQ : Hid (q = (t i).2) := hq
    have HN1 : Hid (Nx d r p q (t (i + 1)).1 (t (i + 1)).2) := hn1
    obtain ⟨e0, e1, e2, e3⟩ := s4c_of hCg
    have HCg : Hid (Cl g (sgc d r p q) 77 wr) := hCg
    clear hp hq hn1 hCg hC
    gi_wp2
    refine ⟨trivial, fun _ => by omega, ?_⟩
    refine (callsIn_wide.2 (HQt.out wr)).mono ?_
    rintro e w2 ⟨rfl, k2⟩
    have z2 := k2.size
    have HJ3 : Hid (J (some g) (kl r t i) w2) := HJ.out _ _ _ _ _ HR.out.1 (grownBy_below k2 _) (.inl rfl)
    have HC3 : Hid (Cl g (sgc d r p q) 77 w2) := HCg.out.below k2
    obtain ⟨fn, tmps, assign, body, hy, hRd⟩ := HY.out _ (kl r t i) (kth r t i) w2 HJ3.out (fun g' e => by cases e; exact ⟨HR.out.2.2, by omega⟩) (by have := HR.out.2.2; omega) (by rw [← kl_succ]; exact kl_prefix r t (by omega))
    clear k2 e0 e1 e2 e3
    gi_wp2
    refine ⟨fun _ => by omega, hRd.mono ?_⟩
    rintro e W' (⟨rfl, hJ', zk, hk'⟩ | ⟨rfl, hJx'⟩)
    · have hC4 := HC.out _ _ _ hJ'
      have hG4 : Cl g (sgc d r p q) 77 W' := (hk' g rfl).trans HC3.out
      obtain ⟨e0, e1, e2, e3⟩ := s4c_of hG4
      have c3 := (s4c_of hC4).2.2.2
      have HJ4 : Hid (J (some g) (kl r t (i + 1)) W') := by
        have := hJ'
        rw [← kl_succ] at this; exact this
      have HG4 : Hid (Cl g (sgc d r p q) 77 W') := hG4
      clear hJ' hk' hC4 hG4 hRd hy
      by_cases hqq : q = q0
      · have hqb : ((q : Int) == (q0 : Int)) = true := beq_iff_eq.2 (by omega)
        have hiN : i = N - 1 := by
          rcases Nat.lt_or_ge i (N - 1) with h | h
          · exact absurd (by rw [← HQ.out]; exact hqq) (HNE.out i h)
          · omega
        have hfin : fin = true := by
          cases fin
          · exact absurd (by rw [← hiN, ← HQ.out]; exact hqq) (HNF.out rfl)
          · rfl
        have HFin : Hid (fin = true ∧ i + 1 = N) := ⟨hfin, by omega⟩
        clear hqq hiN hfin
        gi_wp2
        exact bodyPost_ret (results_none rfl _ _ _) rfl ⟨⟨_, rfl⟩, .inl ⟨HFin.out.1, some g, by have := HJ4.out; rw [HFin.out.2] at this; exact this⟩⟩
      · have hqb : ((q : Int) == (q0 : Int)) = false := beq_eq_false_iff_ne.2 (by omega)
        have hiN : i + 1 < N := by
          rcases Nat.lt_or_ge (i + 1) N with h | h
          · exact h
          · exfalso
            have hi1 : i = N - 1 := by omega
            cases hfv : fin
            · have := HJ4.out
              rw [show i + 1 = N by omega] at this
              exact HEnd.out hfv _ _ this
            · exact hqq (by rw [HQ.out, hi1]; exact HF.out hfv)
        clear hqq
        have HNc : Hid (∀ W, Calls Tryz.prog 80 #[.agg #[.int .i64 (d : Int), .int .i64 (r : Int), .int .i64 (p : Int), .int .i64 (q : Int)]] W fun e w' => e = .returned (.agg #[.int .i64 (d : Int), .int .i64 (r : Int), .int .i64 ((t (i + 1)).1 : Int), .int .i64 ((t (i + 1)).2 : Int)]) ∧ Below W.heap.size W w') := fun W => HN1.out.call W
        gi_wp2
        refine ⟨trivial, fun _ => by omega, ?_⟩
        refine (callsIn_wide.2 (HNc.out _)).mono ?_
        rintro e w5 ⟨rfl, k5⟩
        have HJ5 : Hid (J (some W'.heap.size) (kl r t (i + 1)) w5) :=
          HJ.out _ _ _ _ _ (HJ.out _ _ _ _ _ HJ4.out (grownBy_more (World.grownBy_alloc _ _ none) _) (.inr ⟨_, rfl, Nat.le_refl _⟩)) (grownBy_below k5 _) (.inl rfl)
        have C5 := (Cl.new (sgc d r p q) 77 W').below k5
        obtain ⟨d0, d1, d2, d3⟩ := s4c_of C5
        have f0 := C5.frozen 0
        have f1 := C5.frozen 1
        have f2 := C5.frozen 2
        have f3 := C5.frozen 3
        have HC5 : Hid (Cl W'.heap.size (sgc d r p q) 77 w5) := C5
        have hgz : W.heap.size ≤ W'.heap.size := by have := HR.out.2.2; omega
        clear e0 e1 e2 e3 c3 k5 C5 HNc
        gi_wp2
        have G : ∀ (X : World) (o : Nat) (v : Value), J (some W'.heap.size) (kl r t (i + 1)) X → J (some W'.heap.size) (kl r t (i + 1)) (X.setCell ⟨W'.heap.size, o, none⟩ v) := fun X o v h => HJ.out _ _ _ _ _ h (grownBy_setCell X _ o v) (.inl rfl)
        gi_roundg (gk - 1)
        case rel =>
          refine ⟨i + 1, W'.heap.size, rfl, by omega, by omega, G _ _ _ (G _ _ _ (G _ _ _ (G _ _ _ HJ5.out))), ?_, hgz⟩
          exact (((HC5.out.set 0 (.int .i64 (d : Int))).set 1 (.int .i64 (r : Int))).set 2 (.int .i64 ((t (i + 1)).1 : Int))).set 3 (.int .i64 ((t (i + 1)).2 : Int))
        case measure => omega
    · gi_wp2
      exact bodyPost_ret (results_none rfl _ _ _) rfl ⟨⟨_, rfl⟩, .inr ⟨_, _, hJx'⟩⟩

end Go.Proofs.YtpgedkdaflgfoafGreatDoor
