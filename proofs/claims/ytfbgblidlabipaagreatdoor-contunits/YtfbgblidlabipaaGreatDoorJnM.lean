import Derived.Test.YtfbgblidlabipaaGreatDoorJnL
import Derived.Test.YtfbgblidlabipaaGreatDoorJnI
import Derived.Sort.LoopGhostIn
import Derived.Test.YtfbgblidlabipaaGreatDoorJnG
import Derived.Test.YtfbgblidlabipaaGreatDoorJnK
section
/- The program: cont.part's iterator. -/
set_option linter.unusedSimpArgs false
set_option linter.unusedVariables false
set_option maxRecDepth 100000
namespace Go.Proofs.YtfbgblidlabipaaGreatDoor
open Go.RowKit

/-- One step of the list: what next asks, and answers. -/
structure Nx (d r p q P Q : Nat) : Prop where
  hd : d ≤ 1000000000
  hp : p ≤ 1000000
  hr : r ≤ 1000000
  hq : 1 ≤ q
  hq2 : q ≤ 1000000
  hP : P ≤ 1000000
  he : P + p = (p + r) / q * q
  hPP : P * P ≤ d
  hQ : (d - P * P) / q = Q
theorem Nx.call {d r p q P Q : Nat} (h : Nx d r p q P Q) (w : World) : Calls Tryz.prog 135 #[sgv d r p q] w fun e w' => e = .returned (sgv d r P Q) ∧ Below w.heap.size w w' :=
  next_any d r p q P Q w h.hd h.hp h.hr h.hq h.hq2 h.hP h.he h.hPP h.hQ

/-- What comes behind (p0 + root) / q0, one after the other. -/
structure Sq (d r p0 q0 : Nat) (t : Nat → Nat × Nat) : Prop where
  first : Nx d r p0 q0 (t 0).1 (t 0).2
  step : ∀ i, Nx d r (t i).1 (t i).2 (t (i + 1)).1 (t (i + 1)).2
def kth (r : Nat) (t : Nat → Nat × Nat) (i : Nat) : Nat := ((t i).1 + r) / (t i).2
def kl (r : Nat) (t : Nat → Nat × Nat) (n : Nat) : List Nat := (List.range n).map (kth r t)
theorem kl_succ (r : Nat) (t : Nat → Nat × Nat) (n : Nat) : kl r t (n + 1) = kl r t n ++ [kth r t n] := by simp [kl, List.range_succ]
theorem kl_len (r : Nat) (t : Nat → Nat × Nat) (n : Nat) : (kl r t n).length = n := by simp [kl]
theorem kl_prefix (r : Nat) (t : Nat → Nat × Nat) {m n : Nat} (h : m ≤ n) : kl r t m <+: kl r t n := by
  induction n with
  | zero => obtain rfl : m = 0 := by omega
            exact List.prefix_refl _
  | succ n ih =>
    by_cases e : m = n + 1
    · subst e; exact List.prefix_refl _
    · rw [kl_succ]; exact (ih (by omega)).trans (List.prefix_append _ _)
theorem kl_prefix_len (r : Nat) (t : Nat → Nat × Nat) {n : Nat} {pre : List Nat} (h : pre <+: kl r t n) : pre = kl r t pre.length := by
  have h1 := h.length_le
  rw [kl_len] at h1
  exact List.IsPrefix.eq_of_length (List.prefix_of_prefix_length_le h (kl_prefix r t h1) (by rw [kl_len]; exact Nat.le_refl _)) (by rw [kl_len])

theorem grownBy_below {W W' : World} (h : Below W.heap.size W W') (o : Option Nat) : W.grownBy W' o := ⟨h.os, h.tape, h.output, h.size, fun k hk _ => h.block k hk⟩

theorem grownBy_setCell (w : World) (g o : Nat) (v : Value) : w.grownBy (w.setCell ⟨g, o, none⟩ v) (some g) :=
  ⟨rfl, rfl, rfl, by simp [World.setCell], fun k _ hk => Below.heap_setCell _ _ _ _ (fun e => hk (by simp [e]))⟩

set_option maxHeartbeats 4000000 in
theorem part_yields (d r p0 q0 b N : Nat) (t : Nat → Nat × Nat) (hs : Sq d r p0 q0 t) (fin : Bool) (hN : 1 ≤ N) (hf : fin = true → (t (N - 1)).2 = q0) (hne : ∀ i, i < N - 1 → (t i).2 ≠ q0) (hnf : fin = false → (t (N - 1)).2 ≠ q0) (n : Nat) (hn : 2 ≤ n) :
    YieldsE Fence.wide n Tryz.prog 182 #[.pointer (some ⟨b, 0, none⟩)] (fun x : Nat => #[.int .i64 (x : Int)]) (fun W => Cl b (sgc d r p0 q0) 110 W) (kl r t N) fin := by
  intro l J Jx W hJ hC hY hend h0
  have HY : Hid (∀ (o : Option Nat) (pre : List Nat) (x : Nat) (W1 : World), J o pre W1 → (∀ g, o = some g → W.heap.size ≤ g ∧ g < W1.heap.size) → W.heap.size ≤ W1.heap.size → pre ++ [x] <+: kl r t N → YieldAt Fence.wide (n - 1) Tryz.prog l #[.int .i64 (x : Int)] W1 fun e W' =>
      (e = .returned (.bool true) ∧ J o (pre ++ [x]) W' ∧ W1.heap.size ≤ W'.heap.size ∧ ∀ g, o = some g → W'.heap[g]? = W1.heap[g]?) ∨ (e = .returned (.bool false) ∧ Jx o (pre ++ [x]) W')) := hY
  have HJ : Hid (AbE J) := hJ
  have HC : Hid (∀ o s W1, J o s W1 → Cl b (sgc d r p0 q0) 110 W1) := hC
  have HEnd : Hid (fin = false → ∀ o W1, J o (kl r t N) W1 → False) := hend
  have H0 : Hid (J none [] W) := h0
  have HS : Hid (Sq d r p0 q0 t) := hs
  have HF : Hid (fin = true → (t (N - 1)).2 = q0) := hf
  have HNE : Hid (∀ i, i < N - 1 → (t i).2 ≠ q0) := hne
  have HNF : Hid (fin = false → (t (N - 1)).2 ≠ q0) := hnf
  clear hY hJ hend hs hf hne hnf hC
  have HNx0 : Hid (∀ W, Calls Tryz.prog 135 #[.agg #[.int .i64 (d : Int), .int .i64 (r : Int), .int .i64 (p0 : Int), .int .i64 (q0 : Int)]] W fun e w' => e = .returned (.agg #[.int .i64 (d : Int), .int .i64 (r : Int), .int .i64 ((t 0).1 : Int), .int .i64 ((t 0).2 : Int)]) ∧ Below W.heap.size W w') := fun W => HS.out.first.call W
  obtain ⟨c0, c1, c2, c3⟩ := s4c_of (HC.out _ _ _ h0)
  clear h0
  refine callsIn_of_wp Tryz.func182 rfl trivial ?_ rfl
  simp only [Tryz.ntmps182, List.size_toArray, List.length_cons, List.length_nil, Nat.reduceAdd, Nat.reduceSub, Array.replicate_succ, Array.replicate_zero, List.push_toArray, List.append_toArray, List.nil_append, List.cons_append]
  gi_wp2
  refine ⟨trivial, fun _ => by omega, ?_⟩
  refine (callsIn_wide.2 (HNx0.out W)).mono ?_
  rintro e w1 ⟨rfl, k1⟩
  have HJ1 : Hid (J none [] w1) := HJ.out _ _ _ _ _ H0.out (grownBy_below k1 none) (.inl rfl)
  have z1 := k1.size
  clear k1 c0 c1 c2 c3 HNx0
  gi_wp2
  have HJ2 : Hid (J (some w1.heap.size) [] (w1.alloc (.cells #[.int .i64 (d : Int), .int .i64 (r : Int), .int .i64 ((t 0).1 : Int), .int .i64 ((t 0).2 : Int)] 110))) :=
    HJ.out _ _ _ _ _ HJ1.out (World.grownBy_alloc _ _ none) (.inr ⟨_, rfl, Nat.le_refl _⟩)
  have HC2 : Hid (Cl w1.heap.size (sgc d r (t 0).1 (t 0).2) 110 (w1.alloc (.cells #[.int .i64 (d : Int), .int .i64 (r : Int), .int .i64 ((t 0).1 : Int), .int .i64 ((t 0).2 : Int)] 110))) := Cl.new (sgc d r (t 0).1 (t 0).2) _ w1
  gi_loopg [3] N (fun k pv wx => ∃ (i g : Nat), pv = .pointer (some ⟨g, 0, none⟩) ∧ i + k = N ∧ 1 ≤ k ∧ Hid (J (some g) (kl r t i) wx ∧ Cl g (sgc d r (t i).1 (t i).2) 110 wx ∧ W.heap.size ≤ g))
  case atStart => exact ⟨0, w1.heap.size, rfl, by omega, hN, HJ2.out, HC2.out, z1⟩
  case round =>
    clear HJ2 HC2 HJ1 H0
    obtain ⟨i, g, rfl, hik, hk1, HR⟩ := hrel
    have hC := HC.out _ _ _ HR.out.1
    obtain ⟨p, hp⟩ : ∃ p, p = (t i).1 := ⟨_, rfl⟩
    obtain ⟨q, hq⟩ : ∃ q, q = (t i).2 := ⟨_, rfl⟩
    have hCg := HR.out.2.1
    rw [← hp, ← hq] at hCg
    have hgl := hCg.lt
    have hn1 := HS.out.step i
    rw [← hp, ← hq] at hn1
    have HQt : Hid (∀ W, Calls Tryz.prog 183 #[.agg #[.int .i64 (d : Int), .int .i64 (r : Int), .int .i64 (p : Int), .int .i64 (q : Int)]] W fun e w' => e = .returned (.int .i64 ((kth r t i : Nat) : Int)) ∧ Below W.heap.size W w') := fun W => by
      have := quotient_any d r p q W (by have := hn1.hp; omega) (by have := hn1.hr; omega) hn1.hq (by have := hn1.hq2; omega)
      unfold kth; rw [← hp, ← hq]; exact this
    have HP : Hid (p = (t i).1) := hp
    have HQ : Hid (q = (t i).2) := hq
    have HN1 : Hid (Nx d r p q (t (i + 1)).1 (t (i + 1)).2) := hn1
    obtain ⟨e0, e1, e2, e3⟩ := s4c_of hCg
    have HCg : Hid (Cl g (sgc d r p q) 110 wr) := hCg
    clear hp hq hn1 hCg hC
    gi_wp2
    refine ⟨trivial, fun _ => by omega, ?_⟩
    refine (callsIn_wide.2 (HQt.out wr)).mono ?_
    rintro e w2 ⟨rfl, k2⟩
    have z2 := k2.size
    have HJ3 : Hid (J (some g) (kl r t i) w2) := HJ.out _ _ _ _ _ HR.out.1 (grownBy_below k2 _) (.inl rfl)
    have HC3 : Hid (Cl g (sgc d r p q) 110 w2) := HCg.out.below k2
    obtain ⟨fn, tmps, assign, body, hy, hRd⟩ := HY.out _ (kl r t i) (kth r t i) w2 HJ3.out (fun g' e => by cases e; exact ⟨HR.out.2.2, by omega⟩) (by have := HR.out.2.2; omega) (by rw [← kl_succ]; exact kl_prefix r t (by omega))
    clear k2 e0 e1 e2 e3
    gi_wp2
    refine ⟨fun _ => by omega, hRd.mono ?_⟩
    rintro e W' (⟨rfl, hJ', zk, hk'⟩ | ⟨rfl, hJx'⟩)
    · have hC4 := HC.out _ _ _ hJ'
      have hG4 : Cl g (sgc d r p q) 110 W' := (hk' g rfl).trans HC3.out
      obtain ⟨e0, e1, e2, e3⟩ := s4c_of hG4
      have c3 := (s4c_of hC4).2.2.2
      have HJ4 : Hid (J (some g) (kl r t (i + 1)) W') := by
        have := hJ'
        rw [← kl_succ] at this; exact this
      have HG4 : Hid (Cl g (sgc d r p q) 110 W') := hG4
      clear hJ' hk' hC4 hG4 hRd hy
      by_cases hqq : q = q0
      · have hqb : ((q : Int) == (q0 : Int)) = true := beq_iff_eq.2 (by omega)
        have hiN : i = N - 1 := by
          rcases Nat.lt_or_ge i (N - 1) with h | h
          · exact absurd (by rw [← HQ.out]; exact hqq) (HNE.out i h)
          · omega
        have hfin : fin = true := by
          cases fin
          · exact absurd (by rw [← hiN, ← HQ.out]; exact hqq) (HNF.out rfl)
          · rfl
        have HFin : Hid (fin = true ∧ i + 1 = N) := ⟨hfin, by omega⟩
        clear hqq hiN hfin
        gi_wp2
        exact bodyPost_ret (results_none rfl _ _ _) rfl ⟨⟨_, rfl⟩, .inl ⟨HFin.out.1, some g, by have := HJ4.out; rw [HFin.out.2] at this; exact this⟩⟩
      · have hqb : ((q : Int) == (q0 : Int)) = false := beq_eq_false_iff_ne.2 (by omega)
        have hiN : i + 1 < N := by
          rcases Nat.lt_or_ge (i + 1) N with h | h
          · exact h
          · exfalso
            have hi1 : i = N - 1 := by omega
            cases hfv : fin
            · have := HJ4.out
              rw [show i + 1 = N by omega] at this
              exact HEnd.out hfv _ _ this
            · exact hqq (by rw [HQ.out, hi1]; exact HF.out hfv)
        clear hqq
        have HNc : Hid (∀ W, Calls Tryz.prog 135 #[.agg #[.int .i64 (d : Int), .int .i64 (r : Int), .int .i64 (p : Int), .int .i64 (q : Int)]] W fun e w' => e = .returned (.agg #[.int .i64 (d : Int), .int .i64 (r : Int), .int .i64 ((t (i + 1)).1 : Int), .int .i64 ((t (i + 1)).2 : Int)]) ∧ Below W.heap.size W w') := fun W => HN1.out.call W
        gi_wp2
        refine ⟨trivial, fun _ => by omega, ?_⟩
        refine (callsIn_wide.2 (HNc.out _)).mono ?_
        rintro e w5 ⟨rfl, k5⟩
        have HJ5 : Hid (J (some W'.heap.size) (kl r t (i + 1)) w5) :=
          HJ.out _ _ _ _ _ (HJ.out _ _ _ _ _ HJ4.out (grownBy_more (World.grownBy_alloc _ _ none) _) (.inr ⟨_, rfl, Nat.le_refl _⟩)) (grownBy_below k5 _) (.inl rfl)
        have C5 := (Cl.new (sgc d r p q) 110 W').below k5
        obtain ⟨d0, d1, d2, d3⟩ := s4c_of C5
        have f0 := C5.frozen 0
        have f1 := C5.frozen 1
        have f2 := C5.frozen 2
        have f3 := C5.frozen 3
        have HC5 : Hid (Cl W'.heap.size (sgc d r p q) 110 w5) := C5
        have hgz : W.heap.size ≤ W'.heap.size := by have := HR.out.2.2; omega
        clear e0 e1 e2 e3 c3 k5 C5 HNc
        gi_wp2
        have G : ∀ (X : World) (o : Nat) (v : Value), J (some W'.heap.size) (kl r t (i + 1)) X → J (some W'.heap.size) (kl r t (i + 1)) (X.setCell ⟨W'.heap.size, o, none⟩ v) := fun X o v h => HJ.out _ _ _ _ _ h (grownBy_setCell X _ o v) (.inl rfl)
        gi_roundg (gk - 1)
        case rel =>
          refine ⟨i + 1, W'.heap.size, rfl, by omega, by omega, G _ _ _ (G _ _ _ (G _ _ _ (G _ _ _ HJ5.out))), ?_, hgz⟩
          exact (((HC5.out.set 0 (.int .i64 (d : Int))).set 1 (.int .i64 (r : Int))).set 2 (.int .i64 ((t (i + 1)).1 : Int))).set 3 (.int .i64 ((t (i + 1)).2 : Int))
        case measure => omega
    · gi_wp2
      exact bodyPost_ret (results_none rfl _ _ _) rfl ⟨⟨_, rfl⟩, .inr ⟨_, _, hJx'⟩⟩

end Go.Proofs.YtfbgblidlabipaaGreatDoor
end

section
/- The program: cont.part, cycle, normAfter. -/
set_option linter.unusedSimpArgs false
set_option linter.unusedVariables false
set_option maxRecDepth 100000
namespace Go.Proofs.YtfbgblidlabipaaGreatDoor
open Go.RowKit
attribute [local go_sem] Oper.semAt_some

set_option maxHeartbeats 1000000 in
theorem part_any (d r p q : Nat) (w : World) :
    Calls Tryz.prog 133 #[sgv d r p q] w fun e w' => e = .returned (.func (.func 182) #[] #[.pointer (some ⟨w.heap.size, 0, none⟩)]) ∧ w' = w.alloc (.cells #[.int .i64 (d : Int), .int .i64 (r : Int), .int .i64 (p : Int), .int .i64 (q : Int)] 110) := by
  unfold sgv
  go_enter Tryz.func133, Tryz.ntmps133
  go_wp2
  go_ret
  exact ⟨rfl, rfl⟩

theorem normAfter_any (a : Option Addr) (n c : Nat) (w : World) (hn : n ≤ 1000000) :
    Calls Tryz.prog 74 #[.slice a n c] w fun e w' => e = .returned (.int .i64 (CfM.sgn n)) ∧ w' = w := by
  obtain ⟨m, hm⟩ : ∃ m : Nat, (n : Int) % 2 = (m : Int) := ⟨n % 2, by omega⟩
  by_cases h : n % 2 = 0
  · have hm0 : ((m : Int) == 0) = true := beq_iff_eq.2 (by omega)
    have e : CfM.sgn n = 1 := by unfold CfM.sgn; rw [if_pos h]
    rw [e]
    clear h
    go_enter Tryz.func74, Tryz.ntmps74
    go_wp2
    go_ret
    exact ⟨rfl, rfl⟩
  · have hm0 : ((m : Int) == 0) = false := beq_eq_false_iff_ne.2 (by omega)
    have e : CfM.sgn n = -1 := by unfold CfM.sgn; rw [if_neg h]
    rw [e]
    clear h
    go_enter Tryz.func74, Tryz.ntmps74
    go_wp2
    go_ret
    exact ⟨rfl, rfl⟩

/-- The two answers' boxes, empty; the list's box and its row; what was captured. -/
structure CS (h d r p q : Nat) (w : World) (pre : List Nat) (o : Option Nat) (W : World) : Prop where
  v : Cl (h + 1) [.slice none 0 0] 80 W
  f : Cl (h + 2) [.int .i64 0, .int .i64 0] 25 W
  l : ∃ a c, Cl (h + 3) [.slice a pre.length c] 80 W ∧ W.ownsRow (h + 7) 3 1 (.slice a pre.length c) pre.length (ints (nz pre)) ∧ ∀ g, (Value.slice a pre.length c).ownBlock = some g → o ≠ some g
  s : Cl (h + 4) (sgc d r p q) 110 W
  b : Below h w W
  o : ow (h + 5) o W
  n : pre.length ≤ 1000

theorem CS.step {h d r p q : Nat} {w : World} {pre : List Nat} {o o' : Option Nat} {W W' : World} (s : CS h d r p q w pre o W) (hg : W.grownBy W' o) (ho : o' = o ∨ ∃ g, o' = some g ∧ W.heap.size ≤ g) : CS h d r p q w pre o' W' := by
  obtain ⟨a, c, h1, h2, h3⟩ := s.l
  refine ⟨s.v.grown hg (s.o.ne (by omega)), s.f.grown hg (s.o.ne (by omega)), ⟨a, c, h1.grown hg (s.o.ne (by omega)), row_kept h2 (fun g e => hg.block g (h2.lt g e).2 (fun e2 => h3 g e e2.symm)), ?_⟩, s.s.grown hg (s.o.ne (by omega)), s.b.grown hg (by have := s.o.1; omega) (fun k e => by have := s.o.2 k e; omega), s.o.step hg ho, s.n⟩
  intro g e
  rcases ho with h4 | ⟨g2, h4, h5⟩
  · rw [h4]; exact h3 g e
  · rw [h4]; intro e2; cases e2; have := (h2.lt g e).2; omega

theorem Cl.put {b l : Nat} {c : List Value} {t : TypeId} {W : World} (h : Cl b c t W) (ob : Obj) (hl : b ≠ l) : Cl b c t (W.putObj l ob) := (World.putObj_heap_other hl).trans h

theorem CS.put {h d r p q : Nat} {w : World} {pre : List Nat} {o : Option Nat} {W : World} (s : CS h d r p q w pre o W) (ob : Obj) (k : Nat) (hk : k = h + 5 ∨ k = h + 6) : CS h d r p q w pre o (W.putObj k ob) := by
  obtain ⟨a, c, h1, h2, h3⟩ := s.l
  exact ⟨s.v.put ob (by omega), s.f.put ob (by omega), ⟨a, c, h1.put ob (by omega), row_kept h2 (fun g e => World.putObj_heap_other (by have := (h2.lt g e).1; omega)), h3⟩, s.s.put ob (by omega), s.b.grown (grownBy_putObj' W _ ob) (by have := s.o.1; omega) (fun k e => by cases e; omega), s.o.put ob, s.n⟩

theorem ownsRow_cap {w : World} {B e n c : Nat} {a : Option Addr} {xs : List Value} (h : w.ownsRow B e 1 (.slice a n c) n xs) : n ≤ c := by
  obtain ⟨_, ⟨h1, h2⟩ | ⟨g, cap, cur, h3, h4, h5, h6, h7, _⟩⟩ := h
  · omega
  · simp only [Value.slice.injEq] at h3
    obtain ⟨_, _, h8⟩ := h3
    omega

/-- What cycle answers. -/
def CyPost (r : Nat) (t : Nat → Nat × Nat) (N : Nat) (w : World) (e : Ending) (w' : World) : Prop :=
  Below w.heap.size w w' ∧ ((N ≤ 1000 ∧ ∃ a c, e = .returned (.tuple #[.slice a N c, .agg #[.int .i64 0, .int .i64 0]]) ∧ w'.ownsRow w.heap.size 3 1 (.slice a N c) N (ints (nz (kl r t N)))) ∨ (1000 < N ∧ e = .returned (.tuple #[.slice none 0 0, .agg #[.int .i64 9, .int .i64 0]])))

set_option maxHeartbeats 8000000 in
theorem cycle_any (d r p0 q0 N : Nat) (t : Nat → Nat × Nat) (hs : Sq d r p0 q0 t) (fin : Bool) (hN : 1 ≤ N) (hN2 : N ≤ 1001) (hf : fin = true → (t (N - 1)).2 = q0) (hne : ∀ i, i < N - 1 → (t i).2 ≠ q0) (hnf : fin = false → (t (N - 1)).2 ≠ q0) (hfN : fin = false → N = 1001) (w : World) :
    Calls Tryz.prog 71 #[sgv d r p0 q0] w (CyPost r t N w) := by
  obtain ⟨i0, hi, hz0, hz1, hz2⟩ := info_parts Tryz.infoInt
  have HI : Hid (Tryz.prog.info? 3 = some i0 ∧ i0.zero = some (.int .i64 0) ∧ i0.size = 1 ∧ i0.bytes = 8) := ⟨hi, hz0, hz1, hz2⟩
  have HPY := fun b n hn => part_yields d r p0 q0 b N t hs fin hN hf hne hnf n hn
  have HFN : Hid (fin = false → N = 1001) := hfN
  have HPart : Hid (∀ w, Calls Tryz.prog 133 #[.agg #[.int .i64 (d : Int), .int .i64 (r : Int), .int .i64 (p0 : Int), .int .i64 (q0 : Int)]] w fun e w' => e = .returned (.func (.func 182) #[] #[.pointer (some ⟨w.heap.size, 0, none⟩)]) ∧ w' = w.alloc (.cells #[.int .i64 (d : Int), .int .i64 (r : Int), .int .i64 (p0 : Int), .int .i64 (q0 : Int)] 110)) := fun w => part_any d r p0 q0 w
  clear hi hz0 hz1 hz2 hs hf hne hnf hfN
  unfold sgv
  refine (callsIn_wide (n := 6)).1 ?_
  refine callsIn_of_wp_marks Tryz.func71 rfl trivial ?_ rfl
  simp only [Tryz.ntmps71, List.size_toArray, List.length_cons, List.length_nil, Nat.reduceAdd, Nat.reduceSub, Array.replicate_succ, Array.replicate_zero, List.push_toArray, List.append_toArray, List.nil_append, List.cons_append]
  gi_wp2
  refine ⟨trivial, ?_⟩
  refine (callsIn_wide.2 (HPart.out _)).mono ?_
  rintro e w1 ⟨rfl, hw1⟩
  obtain ⟨W0, hW0⟩ : ∃ W0, W0 = ((((w.alloc (.cells #[.int .i64 (d : Int), .int .i64 (r : Int), .int .i64 (p0 : Int), .int .i64 (q0 : Int)] 110)).alloc (.cells #[.slice none 0 0] 80)).alloc (.cells #[.int .i64 0, .int .i64 0] 25)).alloc (.cells #[.slice none 0 0] 80)) := ⟨_, rfl⟩
  rw [← hW0] at hw1 ⊢
  have z0 : W0.heap.size = w.heap.size + 4 := by rw [hW0]; simp
  have z1 : w1.heap.size = w.heap.size + 5 := by rw [hw1, World.size_alloc, z0]
  have C0 : CS w.heap.size d r p0 q0 w [] none w1 := by
    have k0 : Below w.heap.size w W0 := by rw [hW0]; exact ((((Below.refl _ _).alloc (Nat.le_refl _) _).alloc (by simp) _).alloc (by simp; omega) _).alloc (by simp; omega) _
    have v0 : Cl (w.heap.size + 1) [.slice none 0 0] 80 W0 := by
      rw [hW0]
      have := ((Cl.new [.slice none 0 0] 80 (w.alloc (.cells #[.int .i64 (d : Int), .int .i64 (r : Int), .int .i64 (p0 : Int), .int .i64 (q0 : Int)] 110))).alloc (.cells #[.int .i64 0, .int .i64 0] 25)).alloc (.cells #[.slice none 0 0] 80)
      rw [World.size_alloc] at this
      exact this
    have f0 : Cl (w.heap.size + 2) [.int .i64 0, .int .i64 0] 25 W0 := by
      rw [hW0]
      have := ((Cl.new [.int .i64 0, .int .i64 0] 25 ((w.alloc (.cells #[.int .i64 (d : Int), .int .i64 (r : Int), .int .i64 (p0 : Int), .int .i64 (q0 : Int)] 110)).alloc (.cells #[.slice none 0 0] 80)))).alloc (.cells #[.slice none 0 0] 80)
      rw [World.size_alloc, World.size_alloc] at this
      exact this
    have l0 : Cl (w.heap.size + 3) [.slice none 0 0] 80 W0 := by
      rw [hW0]
      have := (Cl.new [.slice none 0 0] 80 (((w.alloc (.cells #[.int .i64 (d : Int), .int .i64 (r : Int), .int .i64 (p0 : Int), .int .i64 (q0 : Int)] 110)).alloc (.cells #[.slice none 0 0] 80)).alloc (.cells #[.int .i64 0, .int .i64 0] 25)))
      rw [World.size_alloc, World.size_alloc, World.size_alloc] at this
      exact this
    have s0 : Cl (w.heap.size + 4) (sgc d r p0 q0) 110 w1 := by
      rw [hw1, ← z0]; exact Cl.new (sgc d r p0 q0) _ W0
    refine ⟨?_, ?_, ⟨none, 0, ?_, World.ownsRow_nil _ _ _ _, fun g e => by simp⟩, s0, ?_, ⟨by omega, fun g e => by cases e⟩, by simp⟩
    · rw [hw1]; exact v0.alloc _
    · rw [hw1]; exact f0.alloc _
    · rw [hw1]; exact l0.alloc _
    · rw [hw1]; exact k0.alloc (by omega) _
  rw [z0]
  clear hW0 hw1 z0 HPart
  clear W0
  gi_wp2
  have HPY6 := HPY (w.heap.size + 4) (6 - 1) (by decide)
  clear HPY
  refine wpIn_rangeE (F := Fence.wide) (n := 6) rfl (by decide) (gf := 182) (lb := #[.pointer (some ⟨w.heap.size + 4, 0, none⟩)]) rfl trivial (enters_of Tryz.func182 (by kernel_rfl) rfl) HPY6 (fun _ => rfl)
    (fun o pre W => CS w.heap.size d r p0 q0 w pre o W)
    (fun c o pre W => c = .ret ∧ 1000 < N ∧ Cl (w.heap.size + 1) [.slice none 0 0] 80 W ∧ Cl (w.heap.size + 2) [.int .i64 9, .int .i64 0] 25 W ∧ Below w.heap.size w W)
    ?ab ?abp ?abx (fun o s W h => h.s) C0
    (fun x => { tmps := #[.agg #[.int .i64 (d : Int), .int .i64 (r : Int), .int .i64 (p0 : Int), .int .i64 (q0 : Int)], .pointer (some ⟨w.heap.size, 0, none⟩), .pointer (some ⟨w.heap.size + 1, 0, none⟩), .pointer (some ⟨w.heap.size + 2, 0, none⟩), .pointer (some ⟨w.heap.size + 3, 0, none⟩), .int .i64 (x : Int), .agg #[.int .i64 (d : Int), .int .i64 (r : Int), .int .i64 (p0 : Int), .int .i64 (q0 : Int)], .func (.func 182) #[] #[.pointer (some ⟨w.heap.size + 4, 0, none⟩)], .int .i64 (x : Int), undef, undef, undef, undef, undef, undef, undef, undef, undef, undef], defers := [] }) ?assign ?body ?hend ?done ?stop
  case ab => exact fun o s A B o' h hg ho => h.step hg ho
  case abp => exact fun o s A ob h => h.put ob _ (by omega)
  case abx =>
    rintro c o s A ob ⟨h0, h1, h2, h3, h4⟩
    exact ⟨h0, h1, h2.put ob (by omega), h3.put ob (by omega), h4.grown (grownBy_putObj' _ _ _) h4.size (fun k e => by cases e; omega)⟩
  case assign =>
    intro l x W K hK
    gi_wp2
    exact hK
  case hend =>
    intro hf o W h
    have := h.n
    rw [kl_len] at this
    have := HFN.out hf
    omega
  case body =>
    rintro l o pre x W hst hog hpre hz
    obtain ⟨n, hn⟩ : ∃ n, n = pre.length := ⟨_, rfl⟩
    have hnN : n + 1 ≤ N := by have := hpre.length_le; rw [kl_len] at this; simp at this; omega
    have hn1 : n ≤ 1000 := by rw [hn]; exact hst.n
    obtain ⟨a, c, h1, h2, h3⟩ := hst.l
    rw [← hn] at h1 h2 h3
    have q1 := h1.cell 0
    have q2 := h1.frozen 0
    have q3 := hst.v.cell 0
    have q4 := hst.v.frozen 0
    have q5 := hst.f.cell 0
    have q6 := hst.f.cell 1
    have q7 := hst.f.frozen 0
    have q8 := hst.f.frozen 1
    simp at q1 q3 q5 q6
    have HST : Hid (CS w.heap.size d r p0 q0 w pre o W) := hst
    have HV : Hid (Cl (w.heap.size + 3) [.slice a n c] 80 W) := h1
    have HROW : Hid (W.ownsRow (w.heap.size + 7) 3 1 (.slice a n c) n (ints (nz pre))) := h2
    have HNO : Hid (∀ g, (Value.slice a n c).ownBlock = some g → o ≠ some g) := h3
    have HOG : Hid (∀ g, o = some g → w1.heap.size + 2 ≤ g ∧ g < W.heap.size) := hog
    have HNn : Hid (n = pre.length) := hn
    have HPre : Hid (pre ++ [x] <+: kl r t N) := hpre
    clear h1 h2 h3 hst hn hog hpre
    by_cases hb : n = 1000
    · subst hb
      gi_wp2
      have NK : ∀ k, k < w.heap.size + 5 → ¬ keptE w1.heap.size o k := by
        rintro k hk (e | e | e)
        · omega
        · omega
        · have := (HOG.out k e).1; omega
      refine ⟨(((KP.refl _ W).setCell (NK _ (by simp)) _).setCell (NK _ (by simp)) _).setCell (NK _ (by simp)) _, rfl, by omega, ?_, ?_, ?_⟩
      · have h := HST.out.v.set 0 (.slice none 0 0)
        exact (h.other (p := ⟨w.heap.size + 2, 0, none⟩) (by simp) _).other (p := ⟨w.heap.size + 2, 1, none⟩) (by simp) _
      · have h := HST.out.f.other (p := ⟨w.heap.size + 1, 0, none⟩) (by simp) (.slice none 0 0)
        exact (h.set 0 (.int .i64 9)).set 1 (.int .i64 0)
      · exact ((HST.out.b.setCell (by simp) _).setCell (by simp) _).setCell (by simp) _
    · have hbb : ((n : Int) == 1000) = false := beq_eq_false_iff_ne.2 (by omega)
      clear q3 q4 q5 q6 q7 q8
      gi_wp2_with (gi_at_builtin; refine wpListIn_append_own_at _ rfl _ _ 80 rfl (w.heap.size + 7) 3 i0 (.int .i64 0) 1 8 Tryz.underlying80 HI.out.1 HI.out.2.1 HI.out.2.2.1 HI.out.2.2.2 rfl (by decide) (.slice a n c) n (ints (nz pre)) rfl (HROW.out.alloc _) ⟨W.heap.size, 0, none⟩ 1 1 [.int .i64 (x : Int)] rfl rfl (cell_one_new _ _ _) (by simp [Value.oneCell']) (by simp only [maxLen]; omega) (by omega) (by simp; omega) ?_; intro v' w2 hown' hgrow _ hob; obtain ⟨g', cap', rfl⟩ := ownsRow_succ hown'; have hnb : ∀ b, b < w.heap.size + 7 → (Value.slice a n c).ownBlock ≠ some b := fun b hb e => by { have := (HROW.out.lt b e).1; omega }; have A1 : Cl (w.heap.size + 3) [.slice a n c] 80 w2 := (HV.out.alloc _).grown hgrow (hnb _ (by omega)); have r1 := A1.cell 0; have r2 := A1.frozen 0; simp at r1)
      have NK : ∀ k, k < w.heap.size + 5 → ¬ keptE w1.heap.size o k := by
        rintro k hk (e | e | e)
        · omega
        · omega
        · have := (HOG.out k e).1; omega
      have hzW := HST.out.o.1
      have hA2 := A1.set 0 (.slice (some ⟨g', 0, none⟩) (n + 1) cap')
      have G : ∀ k, k < w.heap.size + 7 → k ≠ w.heap.size + 3 → k < W.heap.size → (w2.setCell ⟨w.heap.size + 3, 0, none⟩ (.slice (some ⟨g', 0, none⟩) (n + 1) cap')).heap[k]? = W.heap[k]? := fun k h1 h2 h3 => by
        rw [Below.heap_setCell _ _ _ _ h2, hgrow.block k (by simp; omega) (fun e => hnb k h1 e.symm)]
        exact Below.heap_alloc _ _ _ h3
      refine ⟨?_, ?_⟩
      · refine (((KP.refl _ W).alloc _).grown hgrow (fun g e h => ?_)).setCell (NK _ (by simp)) _
        have h5 := (HROW.out.lt g e).1
        rcases h with h | h | h
        · omega
        · omega
        · exact HNO.out g e h
      · have hlen : (pre ++ [x]).length = n + 1 := by rw [HNn.out]; simp
        refine ⟨(G _ (by omega) (by omega) (by omega)).trans HST.out.v, (G _ (by omega) (by omega) (by omega)).trans HST.out.f, ⟨some ⟨g', 0, none⟩, cap', ?_, ?_, ?_⟩, (G _ (by omega) (by omega) (by omega)).trans HST.out.s, ?_, ?_, by omega⟩
        · rw [hlen]; exact hA2
        · rw [hlen]
          have e : ints (nz (pre ++ [x])) = ints (nz pre) ++ [.int .i64 (x : Int)] := by rw [nz_append, ints_snoc]; rfl
          rw [e]
          exact ownsRow_setCell_below hown' (by show w.heap.size + 3 < _; omega) _
        · rw [hlen]
          intro g e e2
          have e3 : (Value.slice (some ⟨g', 0, none⟩) (n + 1) cap').ownBlock = some g := e
          rcases hob with h | h
          · exact HNO.out g (h ▸ e3) e2
          · rw [h] at e3
            have h5 := (HOG.out g e2).2
            simp at e3
            omega
        · exact ((HST.out.b.alloc (by omega) _).grown hgrow (by simp; omega) (fun k e => by have := (HROW.out.lt k e).1; omega)).setCell (by simp) _
        · refine HST.out.o.size ?_
          have := hgrow.size
          simp [World.setCell] at this ⊢
          omega
  case done =>
    rintro hf o W hst hK
    obtain ⟨a, c, h1, h2, h3⟩ := hst.l
    have hnN : N ≤ 1000 := by have := hst.n; rw [kl_len] at this; exact this
    rw [kl_len] at h1 h2 h3
    have q1 := h1.cell 0
    have q3 := hst.v.cell 0
    have q4 := hst.v.frozen 0
    have q5 := hst.f.cell 0
    have q6 := hst.f.cell 1
    have q7 := hst.f.frozen 0
    have q8 := hst.f.frozen 1
    simp at q1 q3 q5 q6
    have HST : Hid (CS w.heap.size d r p0 q0 w (kl r t N) o W) := hst
    have HROW : Hid (W.ownsRow (w.heap.size + 7) 3 1 (.slice a N c) N (ints (nz (kl r t N)))) := h2
    have HK : Hid (W.heap[w1.heap.size]? = some (.deferred (some []))) := hK
    clear h1 h2 h3 hst hK
    gi_wp2
    generalize hWF : ((W.setCell ⟨w.heap.size + 1, 0, none⟩ (.slice a N c)).setCell ⟨w.heap.size + 1 + 1, 0, none⟩ (.int .i64 0)).setCell ⟨w.heap.size + 1 + 1, 1, none⟩ (.int .i64 0) = WF
    have hv : Cl (w.heap.size + 1) [.slice a N c] 80 WF := by
      rw [← hWF]
      have h := HST.out.v.set 0 (.slice a N c)
      exact (h.other (p := ⟨w.heap.size + 2, 0, none⟩) (by simp) _).other (p := ⟨w.heap.size + 2, 1, none⟩) (by simp) _
    have hfl : Cl (w.heap.size + 2) [.int .i64 0, .int .i64 0] 25 WF := by
      rw [← hWF]
      have h := HST.out.f.other (p := ⟨w.heap.size + 1, 0, none⟩) (by simp) (.slice a N c)
      exact (h.set 0 (.int .i64 0)).set 1 (.int .i64 0)
    have hB : Below w.heap.size w WF := by rw [← hWF]; exact ((HST.out.b.setCell (by simp) _).setCell (by show w.heap.size ≤ w.heap.size + 1 + 1; omega) _).setCell (by show w.heap.size ≤ w.heap.size + 1 + 1; omega) _
    have hR : WF.ownsRow (w.heap.size + 7) 3 1 (.slice a N c) N (ints (nz (kl r t N))) := by
      rw [← hWF]
      exact ownsRow_setCell_below (ownsRow_setCell_below (ownsRow_setCell_below HROW.out (by show w.heap.size + 1 < _; omega) _) (by show w.heap.size + 2 < _; omega) _) (by show w.heap.size + 2 < _; omega) _
    have hK1 : WF.heap[w1.heap.size]? = some (.deferred (some [])) := by
      rw [← hWF, Below.heap_setCell _ _ _ _ (by simp; omega), Below.heap_setCell _ _ _ _ (by simp; omega), Below.heap_setCell _ _ _ _ (by simp; omega)]; exact HK.out
    clear hWF q1 q3 q4 q5 q6 q7 q8
    have hv2 := (hv.put (.deferred none) (show w.heap.size + 1 ≠ w1.heap.size by omega)).cell 0
    have hf2 := (hfl.put (.deferred none) (show w.heap.size + 2 ≠ w1.heap.size by omega)).cell 0
    have hf3 := (hfl.put (.deferred none) (show w.heap.size + 2 ≠ w1.heap.size by omega)).cell 1
    simp at hv2 hf2 hf3
    refine ⟨by simp, .inl ⟨_, _, rfl, run_takeDeferred hK1, ?_⟩⟩
    refine ⟨.tuple #[.slice a N c, .agg #[.int .i64 0, .int .i64 0]], by simp [results, Tryz.results71, go_sem, hv2, hf2, hf3], hB.grown (grownBy_putObj' _ _ _) hB.size (fun k e => by cases e; omega), .inl ⟨hnN, a, c, rfl, ?_⟩⟩
    exact ownsRow_lower (B := w.heap.size + 7) (row_kept hR (fun g e => World.putObj_heap_other (by have := (hR.lt g e).1; omega))) (by omega)
  case stop =>
    rintro c o pre W ⟨rfl, h1, h2, h3, h4⟩ hK
    gi_wp2
    have hv2 := (h2.put (.deferred none) (show w.heap.size + 1 ≠ w1.heap.size by omega)).cell 0
    have hf2 := (h3.put (.deferred none) (show w.heap.size + 2 ≠ w1.heap.size by omega)).cell 0
    have hf3 := (h3.put (.deferred none) (show w.heap.size + 2 ≠ w1.heap.size by omega)).cell 1
    simp at hv2 hf2 hf3
    refine ⟨by simp, .inl ⟨_, _, rfl, run_takeDeferred hK, ?_⟩⟩
    exact ⟨.tuple #[.slice none 0 0, .agg #[.int .i64 9, .int .i64 0]], by simp [results, Tryz.results71, go_sem, hv2, hf2, hf3], h4.grown (grownBy_putObj' _ _ _) h4.size (fun k e => by cases e; omega), .inr ⟨h1, rfl⟩⟩

end Go.Proofs.YtfbgblidlabipaaGreatDoor
end

section
/- The program: cont.rootOf. -/
set_option linter.unusedSimpArgs false
set_option linter.unusedVariables false
set_option maxRecDepth 100000
namespace Go.Proofs.YtfbgblidlabipaaGreatDoor
open Go.RowKit

/-- What rootOf answers: the root's box, and the fault. -/
def RoOut (d : Int) (v f : Value) : Prop :=
  ((d < 2 ∨ 1000000 < d) ∧ v = sgv 0 0 0 0 ∧ f = .agg #[.int .i64 3, .int .i64 0]) ∨
  (∃ r : Nat, (2 ≤ d ∧ d ≤ 1000000) ∧ (r : Int) * r = d ∧ v = sgv 0 0 0 0 ∧ f = .agg #[.int .i64 7, .int .i64 0]) ∨
  (∃ n r : Nat, d = n ∧ n ≤ 1000000 ∧ CfM.Rn n r ∧ v = sgv n r 0 1 ∧ f = .agg #[.int .i64 0, .int .i64 0])

theorem ro_end {h : Nat} {w W2 : World} (S2 : Cl h (sgc 0 0 0 0) 110 W2) (F2 : Cl (h + 1) [.int .i64 0, .int .i64 0] 25 W2) (K : Below h w W2) (a b c d e f : Value) :
    ∃ WF, (((((W2.setCell ⟨h, 0, none⟩ a).setCell ⟨h, 1, none⟩ b).setCell ⟨h, 2, none⟩ c).setCell ⟨h, 3, none⟩ d).setCell ⟨h + 1, 0, none⟩ e).setCell ⟨h + 1, 1, none⟩ f = WF ∧
      WF.cell? ⟨h, 0, none⟩ = some a ∧ WF.cell? ⟨h, 1, none⟩ = some b ∧ WF.cell? ⟨h, 2, none⟩ = some c ∧ WF.cell? ⟨h, 3, none⟩ = some d ∧ WF.cell? ⟨h + 1, 0, none⟩ = some e ∧ WF.cell? ⟨h + 1, 1, none⟩ = some f ∧ Below h w WF := by
  have S : Cl h [a, b, c, d] 110 ((((((W2.setCell ⟨h, 0, none⟩ a).setCell ⟨h, 1, none⟩ b).setCell ⟨h, 2, none⟩ c).setCell ⟨h, 3, none⟩ d).setCell ⟨h + 1, 0, none⟩ e).setCell ⟨h + 1, 1, none⟩ f) :=
    (((((S2.set 0 a).set 1 b).set 2 c).set 3 d).other (p := ⟨h + 1, 0, none⟩) (by simp) e).other (p := ⟨h + 1, 1, none⟩) (by simp) f
  have F : Cl (h + 1) [e, f] 25 ((((((W2.setCell ⟨h, 0, none⟩ a).setCell ⟨h, 1, none⟩ b).setCell ⟨h, 2, none⟩ c).setCell ⟨h, 3, none⟩ d).setCell ⟨h + 1, 0, none⟩ e).setCell ⟨h + 1, 1, none⟩ f) :=
    (((((F2.other (p := ⟨h, 0, none⟩) (by simp) a).other (p := ⟨h, 1, none⟩) (by simp) b).other (p := ⟨h, 2, none⟩) (by simp) c).other (p := ⟨h, 3, none⟩) (by simp) d).set 0 e).set 1 f
  exact ⟨_, rfl, S.cell 0, S.cell 1, S.cell 2, S.cell 3, F.cell 0, F.cell 1, ((((((K.setCell (Nat.le_refl _) _).setCell (Nat.le_refl _) _).setCell (Nat.le_refl _) _).setCell (Nat.le_refl _) _).setCell (by simp) _).setCell (by simp) _)⟩

set_option maxHeartbeats 2000000 in
theorem rootOf_any (d : Int) (w : World) :
    Calls Tryz.prog 69 #[.int .i64 d] w fun e w' => ∃ v f, e = .returned (.tuple #[v, f]) ∧ RoOut d v f ∧ Below w.heap.size w w' := by
  by_cases h1 : d < 2
  · have t1 : decide (d < 2) = true := decide_eq_true h1
    have HO : Hid (RoOut d (sgv 0 0 0 0) (.agg #[.int .i64 3, .int .i64 0])) := .inl ⟨.inl h1, rfl, rfl⟩
    clear h1
    go_enter Tryz.func69, Tryz.ntmps69
    go_wp2
    refine bodyPost_ret (v := .tuple #[sgv 0 0 0 0, .agg #[.int .i64 3, .int .i64 0]]) (by simp [results, Tryz.results69, go_sem, sgv]) rfl ⟨_, _, rfl, HO.out, ?_⟩
    exact ((Below.refl _ _).alloc (Nat.le_refl _) _).alloc (by simp) _
  by_cases h2 : 1000000 < d
  · have t1 : decide (d < 2) = false := decide_eq_false h1
    have t2 : decide (1000000 < d) = true := decide_eq_true h2
    have HO : Hid (RoOut d (sgv 0 0 0 0) (.agg #[.int .i64 3, .int .i64 0])) := .inl ⟨.inr h2, rfl, rfl⟩
    clear h1 h2
    go_enter Tryz.func69, Tryz.ntmps69
    go_wp2
    refine bodyPost_ret (v := .tuple #[sgv 0 0 0 0, .agg #[.int .i64 3, .int .i64 0]]) (by simp [results, Tryz.results69, go_sem, sgv]) rfl ⟨_, _, rfl, HO.out, ?_⟩
    exact ((Below.refl _ _).alloc (Nat.le_refl _) _).alloc (by simp) _
  obtain ⟨n, rfl⟩ := Int.eq_ofNat_of_zero_le (show 0 ≤ d by omega)
  have t1 : decide ((n : Int) < 2) = false := decide_eq_false h1
  have t2 : decide (1000000 < (n : Int)) = false := decide_eq_false h2
  have hn2 : 2 ≤ n ∧ n ≤ 1000000 := by omega
  have HRt : Hid (∀ w, Calls Tryz.prog 130 #[.int .i64 (n : Int), .int .i64 2] w fun e w' => ∃ r : Nat, e = .returned (.tuple #[.int .i64 (r : Int), .agg #[.int .i64 0, .int .i64 0]]) ∧ r ^ 2 ≤ n ∧ n < (r + 1) ^ 2 ∧ r < 1152921504606846976 ∧ Below w.heap.size w w') := fun w => Root_ok n 2 w (numB_mk (by omega) (by omega)) (by decide) (by decide)
  have hS : Cl w.heap.size (sgc 0 0 0 0) 110 ((w.alloc (.cells #[.int .i64 0, .int .i64 0, .int .i64 0, .int .i64 0] 110)).alloc (.cells #[.int .i64 0, .int .i64 0] 25)) := (Cl.new (sgc 0 0 0 0) _ w).alloc _
  have hF : Cl (w.heap.size + 1) [.int .i64 0, .int .i64 0] 25 ((w.alloc (.cells #[.int .i64 0, .int .i64 0, .int .i64 0, .int .i64 0] 110)).alloc (.cells #[.int .i64 0, .int .i64 0] 25)) := by
    have := Cl.new [.int .i64 0, .int .i64 0] 25 (w.alloc (.cells #[.int .i64 0, .int .i64 0, .int .i64 0, .int .i64 0] 110))
    rw [World.size_alloc] at this
    exact this
  have HS : Hid (Cl w.heap.size (sgc 0 0 0 0) 110 ((w.alloc (.cells #[.int .i64 0, .int .i64 0, .int .i64 0, .int .i64 0] 110)).alloc (.cells #[.int .i64 0, .int .i64 0] 25))) := hS
  have HF : Hid (Cl (w.heap.size + 1) [.int .i64 0, .int .i64 0] 25 ((w.alloc (.cells #[.int .i64 0, .int .i64 0, .int .i64 0, .int .i64 0] 110)).alloc (.cells #[.int .i64 0, .int .i64 0] 25))) := hF
  clear h1 h2 hS hF
  go_enter Tryz.func69, Tryz.ntmps69
  go_wp2_with fail
  refine (HRt.out _).mono ?_
  rintro e w1 ⟨r, rfl, h3, h4, h5, k1⟩
  have hr3 : r * r ≤ n := by rw [Nat.pow_two] at h3; exact h3
  have hr4 : n < (r + 1) * (r + 1) := by rw [Nat.pow_two] at h4; exact h4
  have hr1 : 1 ≤ r := by
    rcases Nat.lt_or_ge r 1 with h | h
    · have : r = 0 := by omega
      subst this; omega
    · exact h
  have hr5 : r ≤ 1000000 := by
    have := Nat.mul_le_mul hr1 (Nat.le_refl r)
    omega
  obtain ⟨R, hR⟩ : ∃ R : Nat, R = r * r := ⟨_, rfl⟩
  have hRI : (r : Int) * (r : Int) = (R : Int) := by rw [hR, Int.natCast_mul]
  have HR : Hid (R = r * r) := hR
  have hRn : R ≤ n := by omega
  have HR4 : Hid (n < (r + 1) * (r + 1)) := hr4
  have S1 := HS.out.below (k1.mono (by simp))
  have F1 := HF.out.below (k1.mono (by simp))
  have K1 : Hid (Below w.heap.size w w1) := (((Below.refl _ _).alloc (Nat.le_refl _) _).alloc (by simp) _).trans (k1.mono (by simp; omega))
  have z1 : w.heap.size + 2 ≤ w1.heap.size := by have := k1.size; simp at this; omega
  have HS1 : Hid (Cl w.heap.size (sgc 0 0 0 0) 110 w1) := S1
  have HF1 : Hid (Cl (w.heap.size + 1) [.int .i64 0, .int .i64 0] 25 w1) := F1
  obtain ⟨W2, hW2⟩ : ∃ W2, W2 = w1.alloc (.cells #[.int .i64 0, .int .i64 0] 25) := ⟨_, rfl⟩
  have S2 : Cl w.heap.size (sgc 0 0 0 0) 110 W2 := by rw [hW2]; exact S1.alloc _
  have F2 : Cl (w.heap.size + 1) [.int .i64 0, .int .i64 0] 25 W2 := by rw [hW2]; exact F1.alloc _
  have K2 : Hid (Below w.heap.size w W2) := by show Below _ _ _; rw [hW2]; exact K1.out.alloc (by omega) _
  have e0 : ∀ x : Obj, (w1.alloc x).cell? ⟨w.heap.size, 0, none⟩ = some (.int .i64 0) := fun x => (S1.alloc x).cell 0
  have e1 : ∀ x : Obj, (w1.alloc x).cell? ⟨w.heap.size, 1, none⟩ = some (.int .i64 0) := fun x => (S1.alloc x).cell 1
  have e2 : ∀ x : Obj, (w1.alloc x).cell? ⟨w.heap.size, 2, none⟩ = some (.int .i64 0) := fun x => (S1.alloc x).cell 2
  have e3 : ∀ x : Obj, (w1.alloc x).cell? ⟨w.heap.size, 3, none⟩ = some (.int .i64 0) := fun x => (S1.alloc x).cell 3
  have f0 : ∀ x : Obj, (w1.alloc x).cell? ⟨w.heap.size + 1, 0, none⟩ = some (.int .i64 0) := fun x => (F1.alloc x).cell 0
  have f1 : ∀ x : Obj, (w1.alloc x).cell? ⟨w.heap.size + 1, 1, none⟩ = some (.int .i64 0) := fun x => (F1.alloc x).cell 1
  have g0 : ∀ x : Obj, (w1.alloc x).frozen? ⟨w.heap.size, 0, none⟩ = false := fun x => (S1.alloc x).frozen 0
  have g1 : ∀ x : Obj, (w1.alloc x).frozen? ⟨w.heap.size, 1, none⟩ = false := fun x => (S1.alloc x).frozen 1
  have g2 : ∀ x : Obj, (w1.alloc x).frozen? ⟨w.heap.size, 2, none⟩ = false := fun x => (S1.alloc x).frozen 2
  have g3 : ∀ x : Obj, (w1.alloc x).frozen? ⟨w.heap.size, 3, none⟩ = false := fun x => (S1.alloc x).frozen 3
  have g4 : ∀ x : Obj, (w1.alloc x).frozen? ⟨w.heap.size + 1, 0, none⟩ = false := fun x => (F1.alloc x).frozen 0
  have g5 : ∀ x : Obj, (w1.alloc x).frozen? ⟨w.heap.size + 1, 1, none⟩ = false := fun x => (F1.alloc x).frozen 1
  have HS2 : Hid (Cl w.heap.size (sgc 0 0 0 0) 110 W2) := S2
  have HF2 : Hid (Cl (w.heap.size + 1) [.int .i64 0, .int .i64 0] 25 W2) := F2
  have HW2 : Hid (W2 = w1.alloc (.cells #[.int .i64 0, .int .i64 0] 25)) := hW2
  clear h3 h4 h5 k1 S1 F1 S2 F2 hr3 hr4 hR HRt HS HF hW2
  by_cases hsq : R = n
  · have hqb : ((R : Int) == (n : Int)) = true := beq_iff_eq.2 (by omega)
    have HO : Hid (RoOut (n : Int) (sgv 0 0 0 0) (.agg #[.int .i64 7, .int .i64 0])) := .inr (.inl ⟨r, by omega, by rw [hRI, hsq], rfl, rfl⟩)
    clear hsq
    go_wp2
    rw [← HW2.out]
    obtain ⟨WF, hWF, c0, c1, c2, c3, c4, c5, KF⟩ := ro_end HS2.out HF2.out K2.out (.int .i64 0) (.int .i64 0) (.int .i64 0) (.int .i64 0) (.int .i64 7) (.int .i64 0)
    rw [hWF]
    exact bodyPost_ret (v := .tuple #[sgv 0 0 0 0, .agg #[.int .i64 7, .int .i64 0]]) (by simp [results, Tryz.results69, go_sem, sgv, c0, c1, c2, c3, c4, c5]) rfl ⟨_, _, rfl, HO.out, KF⟩
  · have hqb : ((R : Int) == (n : Int)) = false := beq_eq_false_iff_ne.2 (by omega)
    have HO : Hid (RoOut (n : Int) (sgv n r 0 1) (.agg #[.int .i64 0, .int .i64 0])) := .inr (.inr ⟨n, r, rfl, hn2.2, ⟨hr1, by have := HR.out; omega, HR4.out⟩, rfl, rfl⟩)
    clear hsq
    go_wp2
    rw [← HW2.out]
    obtain ⟨WF, hWF, c0, c1, c2, c3, c4, c5, KF⟩ := ro_end HS2.out HF2.out K2.out (.int .i64 (n : Int)) (.int .i64 (r : Int)) (.int .i64 0) (.int .i64 1) (.int .i64 0) (.int .i64 0)
    rw [hWF]
    exact bodyPost_ret (v := .tuple #[sgv n r 0 1, .agg #[.int .i64 0, .int .i64 0]]) (by simp [results, Tryz.results69, go_sem, sgv, c0, c1, c2, c3, c4, c5]) rfl ⟨_, _, rfl, HO.out, KF⟩

end Go.Proofs.YtfbgblidlabipaaGreatDoor
end

section
/- The program: cont.pair.plus, climb. -/
set_option linter.unusedSimpArgs false
set_option linter.unusedVariables false
set_option maxRecDepth 100000
namespace Go.Proofs.YtfbgblidlabipaaGreatDoor
open Go.RowKit LgM

abbrev S4p (b : Nat) (vx vy wx wy : Value) (w : World) : Prop := w.cell? ⟨b, 0, none⟩ = some vx ∧ w.cell? ⟨b, 1, none⟩ = some vy ∧ w.cell? ⟨b + 1, 0, none⟩ = some wx ∧ w.cell? ⟨b + 1, 1, none⟩ = some wy
structure Pp3 (b : Nat) (vx vy wx wy : Value) (w : World) : Prop where
  v : Cl b [vx, vy] 120 w
  u : Cl (b + 1) [wx, wy] 120 w
  z : Cl (b + 2) [.slice none 0 0, .slice none 0 0] 120 w
theorem Pp3.below {b B : Nat} {vx vy wx wy : Value} {w w' : World} (h : Pp3 b vx vy wx wy w) (k : Below B w w') (hB : b + 3 ≤ B) : Pp3 b vx vy wx wy w' :=
  ⟨(k.block _ (by omega)).trans h.v, (k.block _ (by omega)).trans h.u, (k.block _ (by omega)).trans h.z⟩
theorem Pp3.held {b : Nat} {vx vy wx wy : Value} {w : World} (h : Pp3 b vx vy wx wy w) : S4p b vx vy wx wy w := ⟨h.v.cell 0, h.v.cell 1, h.u.cell 0, h.u.cell 1⟩
theorem Pp3.start (vx vy wx wy : Value) (w : World) : Pp3 w.heap.size vx vy wx wy (((w.alloc (.cells #[vx, vy] 120)).alloc (.cells #[wx, wy] 120)).alloc (.cells #[.slice none 0 0, .slice none 0 0] 120)) := by
  refine ⟨((Cl.new [vx, vy] _ w).alloc _).alloc _, ?_, ?_⟩
  · have := (Cl.new [wx, wy] 120 (w.alloc (.cells #[vx, vy] 120))).alloc (.cells #[.slice none 0 0, .slice none 0 0] 120)
    rw [World.size_alloc] at this
    exact this
  · have := (Cl.new [.slice none 0 0, .slice none 0 0] 120 ((w.alloc (.cells #[vx, vy] 120)).alloc (.cells #[wx, wy] 120)))
    rw [World.size_alloc, World.size_alloc] at this
    exact this

theorem mul_lt2 {x t m : Nat} (h : x < Bs ^ m) (ht : t ≤ 1000000000) : x * t < Bs ^ (m + 2) := by
  have h3 : x * t ≤ x * (Bs * Bs) := Nat.mul_le_mul_left _ (Nat.le_trans ht (by decide))
  have h4 : x * (Bs * Bs) < Bs ^ m * (Bs * Bs) := Nat.mul_lt_mul_of_pos_right h (by decide)
  rw [show m + 2 = m + 1 + 1 from rfl, pow_s, pow_s, Nat.mul_assoc]; omega
theorem lt_more {x m : Nat} (h : x < Bs ^ m) : x < Bs ^ (m + 2) := Nat.lt_of_lt_of_le h (Nat.pow_le_pow_right (by decide) (by omega))

theorem LN.slice {w : World} {v : Value} {n : Nat} (h : LN w v n) : ∃ a k c, v = .slice a k c := by
  obtain ⟨k, a, _, _, c, h, _⟩ := h.open; exact ⟨a, k, c, h⟩

/-- A write to a block that holds no number leaves a list of numbers as it is. -/
theorem IS.setc {w : World} {s : Value} {xs : List Int} {b o' : Nat} {l : List Value} {T : TypeId} (h : IS w s xs) (hc : Cl b l T w) (hl : ∀ u ∈ l, ∀ z, u ≠ .int .i64 z) (v : Value) : IS (w.setCell ⟨b, o', none⟩ v) s xs := by
  obtain ⟨a, g, o, c, e, p, cell, lt⟩ := h.shape
  refine ⟨a, g, o, c, e, p, fun i hi => ?_, fun hp => by have := lt hp; simpa [World.setCell] using this⟩
  have hg : g ≠ b := by
    rintro rfl
    have h1 := cell i hi
    rw [hc.cell] at h1
    exact hl _ (List.mem_of_getElem? h1) _ rfl
  rw [World.cell?_of_block (w := w) (a := ⟨g, o + i, none⟩) (Below.heap_setCell w _ v g hg)]
  exact cell i hi
theorem LN.setc {w : World} {s : Value} {n : Nat} {b o' : Nat} {l : List Value} {T : TypeId} (h : LN w s n) (hc : Cl b l T w) (hl : ∀ u ∈ l, ∀ z, u ≠ .int .i64 z) (v : Value) : LN (w.setCell ⟨b, o', none⟩ v) s n := by
  obtain ⟨k, h1, h2⟩ := h
  exact ⟨k, h1, h2.setc hc hl v⟩

set_option maxHeartbeats 4000000 in
theorem pplus_any (vx vy wx wy : Value) (x y X Y t m : Nat) (w : World) (hx : LN w vx x) (hy : LN w vy y) (hX : LN w wx X) (hY : LN w wy Y) (hxm : x < Bs ^ m) (hym : y < Bs ^ m) (hXm : X < Bs ^ m) (hYm : Y < Bs ^ m) (hm : m ≤ 10000) (ht : t ≤ 1000000000) :
    Calls Tryz.prog 136 #[.agg #[vx, vy], .int .i64 (t : Int), .agg #[wx, wy]] w fun e w' => ∃ a b, e = .returned (.agg #[a, b]) ∧ LN w' a (x + X * t) ∧ LN w' b (y + Y * t) ∧ Below w.heap.size w w' := by
  obtain ⟨a1, k1, c1, rfl⟩ := hx.slice
  obtain ⟨a2, k2, c2, rfl⟩ := hy.slice
  obtain ⟨a3, k3, c3, rfl⟩ := hX.slice
  obtain ⟨a4, k4, c4, rfl⟩ := hY.slice
  have HX1 : Hid (LN w (.slice a1 k1 c1) x) := hx
  have HX2 : Hid (LN w (.slice a2 k2 c2) y) := hy
  have HX3 : Hid (LN w (.slice a3 k3 c3) X) := hX
  have HX4 : Hid (LN w (.slice a4 k4 c4) Y) := hY
  have HM : Hid (x < Bs ^ m ∧ y < Bs ^ m ∧ X < Bs ^ m ∧ Y < Bs ^ m) := ⟨hxm, hym, hXm, hYm⟩
  clear hx hy hX hY hxm hym hXm hYm
  have P0 := Pp3.start (.slice a1 k1 c1) (.slice a2 k2 c2) (.slice a3 k3 c3) (.slice a4 k4 c4) w
  obtain ⟨W0, hW0⟩ : ∃ W0, W0 = (((w.alloc (.cells #[.slice a1 k1 c1, .slice a2 k2 c2] 120)).alloc (.cells #[.slice a3 k3 c3, .slice a4 k4 c4] 120)).alloc (.cells #[.slice none 0 0, .slice none 0 0] 120)) := ⟨_, rfl⟩
  rw [← hW0] at P0
  have z0 : W0.heap.size = w.heap.size + 3 := by rw [hW0]; simp
  have KB0 : Hid (Below w.heap.size w W0) := by
    show Below _ _ _
    rw [hW0]; exact (((Below.refl _ _).alloc (Nat.le_refl _) _).alloc (by simp) _).alloc (by simp; omega) _
  go_enter Tryz.func136, Tryz.ntmps136
  go_wp2
  rw [← hW0]
  clear hW0
  refine wp_region_G (S4p w.heap.size (.slice a1 k1 c1) (.slice a2 k2 c2) (.slice a3 k3 c3) (.slice a4 k4 c4)) 15 (by kernel_rfl) P0.held (fun hHeld => ?_)
  refine wpAnyG_take (i := 0) (v := ?v0x1) rfl (by kernel_rfl) (fun _ _ _ h => h) (Or.inl ⟨by rfl, ?y0x1⟩) hHeld ?r0x1
  case y0x1 => (intro wS hSw; obtain ⟨s1, s2, s3, s4⟩ := hSw; go_simp; try with_reducible rfl)
  try simp only [Act.put, List.setIfInBounds_toArray, List.set_cons_zero, List.set_cons_succ]
  refine wpAnyG_take (i := 1) (v := ?v1x2) rfl (by kernel_rfl) (fun _ _ _ h => h) (Or.inl ⟨by rfl, ?y1x2⟩) hHeld ?r1x2
  case y1x2 => (intro wS hSw; obtain ⟨s1, s2, s3, s4⟩ := hSw; go_simp; try with_reducible rfl)
  try simp only [Act.put, List.setIfInBounds_toArray, List.set_cons_zero, List.set_cons_succ]
  refine wpAnyG_take (i := 2) (v := ?v2x3) rfl (by kernel_rfl) (fun _ _ _ h => h) (Or.inl ⟨by rfl, ?y2x3⟩) hHeld ?r2x3
  case y2x3 => (intro wS hSw; obtain ⟨s1, s2, s3, s4⟩ := hSw; go_simp; try with_reducible rfl)
  try simp only [Act.put, List.setIfInBounds_toArray, List.set_cons_zero, List.set_cons_succ]
  refine wpAnyG_take (i := 3) (v := ?v3x4) rfl (by kernel_rfl) (fun _ _ _ h => h) (Or.inl ⟨by rfl, ?y3x4⟩) hHeld ?r3x4
  case y3x4 => (intro wS hSw; obtain ⟨s1, s2, s3, s4⟩ := hSw; go_simp; try with_reducible rfl)
  try simp only [Act.put, List.setIfInBounds_toArray, List.set_cons_zero, List.set_cons_succ]
  refine wpAnyG_take (i := 4) (v := ?v4x5) rfl (by kernel_rfl) (fun _ _ _ h => h) (Or.inl ⟨by rfl, ?y4x5⟩) hHeld ?r4x5
  case y4x5 => (intro wS hSw; obtain ⟨s1, s2, s3, s4⟩ := hSw; go_simp; try with_reducible rfl)
  try simp only [Act.put, List.setIfInBounds_toArray, List.set_cons_zero, List.set_cons_succ]
  refine wpAnyG_take (i := 7) (v := ?v7x6) rfl (by kernel_rfl) (fun _ _ _ h => h) (Or.inl ⟨by rfl, ?y7x6⟩) hHeld ?r7x6
  case y7x6 => (intro wS hSw; obtain ⟨s1, s2, s3, s4⟩ := hSw; go_simp; try with_reducible rfl)
  try simp only [Act.put, List.setIfInBounds_toArray, List.set_cons_zero, List.set_cons_succ]
  refine wpAnyG_take (i := 8) (v := ?v8x7) rfl (by kernel_rfl) (fun _ _ _ h => h) (Or.inl ⟨by rfl, ?y8x7⟩) hHeld ?r8x7
  case y8x7 => (intro wS hSw; obtain ⟨s1, s2, s3, s4⟩ := hSw; go_simp; try with_reducible rfl)
  try simp only [Act.put, List.setIfInBounds_toArray, List.set_cons_zero, List.set_cons_succ]
  refine wpAnyG_take (i := 9) (v := ?v9x8) rfl (by kernel_rfl) (fun _ _ _ h => h) (Or.inl ⟨by rfl, ?y9x8⟩) hHeld ?r9x8
  case y9x8 => (intro wS hSw; obtain ⟨s1, s2, s3, s4⟩ := hSw; go_simp; try with_reducible rfl)
  try simp only [Act.put, List.setIfInBounds_toArray, List.set_cons_zero, List.set_cons_succ]
  refine wpAnyG_take (i := 10) (v := ?v10x9) rfl (by kernel_rfl) (fun _ _ _ h => h) (Or.inl ⟨by rfl, ?y10x9⟩) hHeld ?r10x9
  case y10x9 => (intro wS hSw; obtain ⟨s1, s2, s3, s4⟩ := hSw; go_simp; try with_reducible rfl)
  try simp only [Act.put, List.setIfInBounds_toArray, List.set_cons_zero, List.set_cons_succ]
  refine wpAnyG_take (i := 11) (v := ?v11x10) rfl (by kernel_rfl) (fun _ _ _ h => h) (Or.inl ⟨by rfl, ?y11x10⟩) hHeld ?r11x10
  case y11x10 => (intro wS hSw; obtain ⟨s1, s2, s3, s4⟩ := hSw; go_simp; try with_reducible rfl)
  try simp only [Act.put, List.setIfInBounds_toArray, List.set_cons_zero, List.set_cons_succ]
  refine wpAnyG_one (i := 5) rfl (by kernel_rfl) (fun K hK => ?_)
  go_simp
  refine (Times_any _ X t m _ (HX3.out.below KB0.out.drew) HM.out.2.2.1 (by omega) ht).mono ?_
  rintro e w1 ⟨r1, rfl, n1, k1'⟩
  obtain ⟨b1, l1, d1, rfl⟩ := n1.slice
  have B1 : Below w.heap.size w w1 := KB0.out.drew.trans (k1'.mono (by show _ ≤ W0.heap.size; omega))
  have P1 := P0.below ((Below.refl (w.heap.size + 3) W0).drew.trans (k1'.mono (by show _ ≤ W0.heap.size; omega))) (Nat.le_refl _)
  have z1 : w.heap.size + 3 ≤ w1.heap.size := by have := k1'.size; have e : W0.drew.heap.size = W0.heap.size := rfl; omega
  refine hK.out _ _ P1.held ?_
  clear hK K
  try simp only [Act.put, List.setIfInBounds_toArray, List.set_cons_zero, List.set_cons_succ]
  clear hHeld
  have hHeld := P1.held
  refine wpAnyG_one (i := 6) rfl (by kernel_rfl) (fun K hK => ?_)
  go_simp
  refine (Plus_any _ _ x (X * t) (m + 2) w1 (HX1.out.below B1) n1 (lt_more HM.out.1) (mul_lt2 HM.out.2.2.1 ht) (by omega)).mono ?_
  rintro e w2 ⟨r2, rfl, n2, k2'⟩
  obtain ⟨b2, l2, d2, rfl⟩ := n2.slice
  have B2 : Below w.heap.size w w2 := B1.trans (k2'.mono (by omega))
  have P2 := P1.below (k2'.mono z1) (Nat.le_refl _)
  have z2 : w.heap.size + 3 ≤ w2.heap.size := Nat.le_trans z1 k2'.size
  refine hK.out _ _ P2.held ?_
  clear hK K
  try simp only [Act.put, List.setIfInBounds_toArray, List.set_cons_zero, List.set_cons_succ]
  clear hHeld
  have hHeld := P2.held
  refine wpAnyG_one (i := 12) rfl (by kernel_rfl) (fun K hK => ?_)
  go_simp
  refine (Times_any _ Y t m _ (HX4.out.below B2) HM.out.2.2.2 (by omega) ht).mono ?_
  rintro e w3 ⟨r3, rfl, n3, k3'⟩
  obtain ⟨b3, l3, d3, rfl⟩ := n3.slice
  have B3 : Below w.heap.size w w3 := B2.trans (k3'.mono (by omega))
  have P3 := P2.below (k3'.mono z2) (Nat.le_refl _)
  have z3 : w.heap.size + 3 ≤ w3.heap.size := Nat.le_trans z2 k3'.size
  have n23 := n2.below k3'
  refine hK.out _ _ P3.held ?_
  clear hK K
  try simp only [Act.put, List.setIfInBounds_toArray, List.set_cons_zero, List.set_cons_succ]
  clear hHeld
  have hHeld := P3.held
  refine wpAnyG_one (i := 13) rfl (by kernel_rfl) (fun K hK => ?_)
  go_simp
  refine (Plus_any _ _ y (Y * t) (m + 2) w3 (HX2.out.below B3) n3 (lt_more HM.out.2.1) (mul_lt2 HM.out.2.2.2 ht) (by omega)).mono ?_
  rintro e w4 ⟨r4, rfl, n4, k4'⟩
  obtain ⟨b4, l4, d4, rfl⟩ := n4.slice
  have B4 : Below w.heap.size w w4 := B3.trans (k4'.mono (by omega))
  have P4 := P3.below (k4'.mono z3) (Nat.le_refl _)
  have z4 : w.heap.size + 3 ≤ w4.heap.size := Nat.le_trans z3 k4'.size
  have n24 := n23.below k4'
  refine hK.out _ _ P4.held ?_
  clear hK K
  try simp only [Act.put, List.setIfInBounds_toArray, List.set_cons_zero, List.set_cons_succ]
  clear hHeld
  have hHeld := P4.held
  have HB4 : Hid (Below w.heap.size w w4) := B4
  have HP4 : Hid (Pp3 w.heap.size (.slice a1 k1 c1) (.slice a2 k2 c2) (.slice a3 k3 c3) (.slice a4 k4 c4) w4) := P4
  have HN24 : Hid (LN w4 (.slice b2 l2 d2) (x + X * t)) := n24
  have HN4 : Hid (LN w4 (.slice b4 l4 d4) (y + Y * t)) := n4
  have e0 := P4.z.cell 0
  have e1 := P4.z.cell 1
  have g0 := P4.z.frozen 0
  have g1 := P4.z.frozen 1
  simp at e0 e1
  clear n1 n2 n3 n4 n23 n24 k1' k2' k3' k4' B1 B2 B3 B4 P0 P1 P2 P3 P4
  refine wpAnyG_take (i := 14) (v := ?v14x11) rfl (by kernel_rfl) (fun _ _ _ h => h) (Or.inl ⟨by rfl, ?y14x11⟩) hHeld ?r14x11
  case y14x11 => (intro wS hSw; obtain ⟨s1, s2, s3, s4⟩ := hSw; go_simp; try with_reducible rfl)
  try simp only [Act.put, List.setIfInBounds_toArray, List.set_cons_zero, List.set_cons_succ]
  refine wpAnyG_last (i := 15) rfl (by kernel_rfl) (by kernel_rfl) (fun K hK => ?_)
  go_simp
  refine hK.out _ _ ?_
  clear hK K
  try simp only [Act.put, List.setIfInBounds_toArray, List.set_cons_zero, List.set_cons_succ]
  refine wpAnyG_done (by kernel_rfl) ?_ _
  have Z1 : Cl (w.heap.size + 2) [.slice b2 l2 d2, .slice none 0 0] 120 (w4.setCell ⟨w.heap.size + 1 + 1, 0, none⟩ (.slice b2 l2 d2)) := HP4.out.z.set 0 (.slice b2 l2 d2)
  have Z2 : Cl (w.heap.size + 2) [.slice b2 l2 d2, .slice b4 l4 d4] 120 ((w4.setCell ⟨w.heap.size + 1 + 1, 0, none⟩ (.slice b2 l2 d2)).setCell ⟨w.heap.size + 1 + 1, 1, none⟩ (.slice b4 l4 d4)) := Z1.set 1 (.slice b4 l4 d4)
  have L1 : LN ((w4.setCell ⟨w.heap.size + 1 + 1, 0, none⟩ (.slice b2 l2 d2)).setCell ⟨w.heap.size + 1 + 1, 1, none⟩ (.slice b4 l4 d4)) (.slice b2 l2 d2) (x + X * t) :=
    (HN24.out.setc HP4.out.z (by simp) _).setc Z1 (by simp) _
  have L2 : LN ((w4.setCell ⟨w.heap.size + 1 + 1, 0, none⟩ (.slice b2 l2 d2)).setCell ⟨w.heap.size + 1 + 1, 1, none⟩ (.slice b4 l4 d4)) (.slice b4 l4 d4) (y + Y * t) :=
    (HN4.out.setc HP4.out.z (by simp) _).setc Z1 (by simp) _
  have KF : Below w.heap.size w ((w4.setCell ⟨w.heap.size + 1 + 1, 0, none⟩ (.slice b2 l2 d2)).setCell ⟨w.heap.size + 1 + 1, 1, none⟩ (.slice b4 l4 d4)) :=
    (HB4.out.setCell (by show w.heap.size ≤ w.heap.size + 1 + 1; omega) _).setCell (by show w.heap.size ≤ w.heap.size + 1 + 1; omega) _
  generalize hWF : (w4.setCell ⟨w.heap.size + 1 + 1, 0, none⟩ (.slice b2 l2 d2)).setCell ⟨w.heap.size + 1 + 1, 1, none⟩ (.slice b4 l4 d4) = WF at Z2 L1 L2 KF ⊢
  have f0 := Z2.cell 0
  have f1 := Z2.cell 1
  simp at f0 f1
  have HL1 : Hid (LN WF (.slice b2 l2 d2) (x + X * t)) := L1
  have HL2 : Hid (LN WF (.slice b4 l4 d4) (y + Y * t)) := L2
  have HKF : Hid (Below w.heap.size w WF) := KF
  clear hWF Z1 Z2 L1 L2 KF hHeld e0 e1 g0 g1
  go_wp2
  exact bodyPost_ret (v := .agg #[.slice b2 l2 d2, .slice b4 l4 d4]) (by simp [results, Tryz.results136, go_sem, f0, f1]) rfl ⟨_, _, rfl, HL1.out, HL2.out, HKF.out⟩

end Go.Proofs.YtfbgblidlabipaaGreatDoor
end
