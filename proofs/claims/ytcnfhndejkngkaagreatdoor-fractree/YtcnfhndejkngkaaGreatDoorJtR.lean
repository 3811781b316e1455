import Derived.Test.YtcnfhndejkngkaaGreatDoorJtQ
import Derived.Test.YtcnfhndejkngkaaGreatDoorJtP
import Derived.Sort.LoopGhostIn
import Derived.Test.YtcnfhndejkngkaaGreatDoorJtO
section
/- The program: cont.part's iterator. -/
set_option linter.unusedSimpArgs false
set_option linter.unusedVariables false
set_option maxRecDepth 100000
namespace Go.Proofs.YtcnfhndejkngkaaGreatDoor
open Go.RowKit

/-- One step of the list: what next asks, and answers. -/
structure Nx (d r p q P Q : Nat) : Prop where
  hd : d ≤ 1000000000
  hp : p ≤ 1000000
  hr : r ≤ 1000000
  hq : 1 ≤ q
  hq2 : q ≤ 1000000
  hP : P ≤ 1000000
  he : P + p = (p + r) / q * q
  hPP : P * P ≤ d
  hQ : (d - P * P) / q = Q
/-- What comes behind (p0 + root) / q0, one after the other. -/
structure Sq (d r p0 q0 : Nat) (t : Nat → Nat × Nat) : Prop where
  first : Nx d r p0 q0 (t 0).1 (t 0).2
  step : ∀ i, Nx d r (t i).1 (t i).2 (t (i + 1)).1 (t (i + 1)).2
def kth (r : Nat) (t : Nat → Nat × Nat) (i : Nat) : Nat := ((t i).1 + r) / (t i).2
def kl (r : Nat) (t : Nat → Nat × Nat) (n : Nat) : List Nat := (List.range n).map (kth r t)
theorem kl_succ (r : Nat) (t : Nat → Nat × Nat) (n : Nat) : kl r t (n + 1) = kl r t n ++ [kth r t n] := by simp [kl, List.range_succ]
theorem kl_len (r : Nat) (t : Nat → Nat × Nat) (n : Nat) : (kl r t n).length = n := by simp [kl]
theorem kl_prefix (r : Nat) (t : Nat → Nat × Nat) {m n : Nat} (h : m ≤ n) : kl r t m <+: kl r t n := by
  induction n with
  | zero => obtain rfl : m = 0 := by omega
            exact List.prefix_refl _
  | succ n ih =>
    by_cases e : m = n + 1
    · subst e; exact List.prefix_refl _
    · rw [kl_succ]; exact (ih (by omega)).trans (List.prefix_append _ _)
theorem kl_prefix_len (r : Nat) (t : Nat → Nat × Nat) {n : Nat} {pre : List Nat} (h : pre <+: kl r t n) : pre = kl r t pre.length := by
  have h1 := h.length_le
  rw [kl_len] at h1
  exact List.IsPrefix.eq_of_length (List.prefix_of_prefix_length_le h (kl_prefix r t h1) (by rw [kl_len]; exact Nat.le_refl _)) (by rw [kl_len])

theorem grownBy_below {W W' : World} (h : Below W.heap.size W W') (o : Option Nat) : W.grownBy W' o := ⟨h.os, h.tape, h.output, h.size, fun k hk _ => h.block k hk⟩

theorem grownBy_setCell (w : World) (g o : Nat) (v : Value) : w.grownBy (w.setCell ⟨g, o, none⟩ v) (some g) :=
  ⟨rfl, rfl, rfl, by simp [World.setCell], fun k _ hk => Below.heap_setCell _ _ _ _ (fun e => hk (by simp [e]))⟩

end Go.Proofs.YtcnfhndejkngkaaGreatDoor
end

section
/- The program: cont.part, cycle, normAfter. -/
set_option linter.unusedSimpArgs false
set_option linter.unusedVariables false
set_option maxRecDepth 100000
namespace Go.Proofs.YtcnfhndejkngkaaGreatDoor
open Go.RowKit
theorem Cl.put {b l : Nat} {c : List Value} {t : TypeId} {W : World} (h : Cl b c t W) (ob : Obj) (hl : b ≠ l) : Cl b c t (W.putObj l ob) := (World.putObj_heap_other hl).trans h

theorem ownsRow_cap {w : World} {B e n c : Nat} {a : Option Addr} {xs : List Value} (h : w.ownsRow B e 1 (.slice a n c) n xs) : n ≤ c := by
  obtain ⟨_, ⟨h1, h2⟩ | ⟨g, cap, cur, h3, h4, h5, h6, h7, _⟩⟩ := h
  · omega
  · simp only [Value.slice.injEq] at h3
    obtain ⟨_, _, h8⟩ := h3
    omega

/-- What cycle answers. -/
def CyPost (r : Nat) (t : Nat → Nat × Nat) (N : Nat) (w : World) (e : Ending) (w' : World) : Prop :=
  Below w.heap.size w w' ∧ ((N ≤ 1000 ∧ ∃ a c, e = .returned (.tuple #[.slice a N c, .agg #[.int .i64 0, .int .i64 0]]) ∧ w'.ownsRow w.heap.size 3 1 (.slice a N c) N (ints (nz (kl r t N)))) ∨ (1000 < N ∧ e = .returned (.tuple #[.slice none 0 0, .agg #[.int .i64 9, .int .i64 0]])))

end Go.Proofs.YtcnfhndejkngkaaGreatDoor
end

section
/- The program: cont.quotients and its iterator. -/
set_option linter.unusedSimpArgs false
set_option linter.unusedVariables false
set_option maxRecDepth 100000
namespace Go.Proofs.YtcnfhndejkngkaaGreatDoor
open Go.RowKit

theorem modLeft_i (a n : Int) (w : World) (ha : a.natAbs ≤ 4000000000000000000) (h0 : 1 ≤ n) (hn : n ≤ 1000000000000000000) :
    Calls Tryz.prog 129 #[.int .i64 a, .int .i64 n] w fun e w' => e = .returned (.int .i64 (a % n)) ∧ w' = w := by
  obtain ⟨m, rfl⟩ : ∃ m : Nat, n = m := ⟨n.toNat, by omega⟩
  exact left_any a m w ha (by omega) hn

set_option maxHeartbeats 1000000 in
theorem quotients_any (a b : Int) (w : World) :
    Calls Tryz.prog 101 #[.int .i64 a, .int .i64 b] w fun e w' => e = .returned (.func (.func 128) #[] #[.pointer (some ⟨w.heap.size, 0, none⟩), .pointer (some ⟨w.heap.size + 1, 0, none⟩)]) ∧ w' = (w.alloc (.cells #[.int .i64 a] 3)).alloc (.cells #[.int .i64 b] 3) := by
  go_enter Tryz.func101, Tryz.ntmps101
  go_wp2
  go_ret
  exact ⟨rfl, rfl⟩

theorem w64_id {x : Int} (h1 : -9223372036854775808 ≤ x) (h2 : x ≤ 9223372036854775807) : wrap64 x = x := by
  simp only [wrap64]; omega

/-- One step of Euclid's way, in numbers that an int holds. -/
structure Qs (a b : Int) (i : Nat) (u v R k : Int) : Prop where
  hu : u = (CnQ.es a b i).1
  hv : v = (CnQ.es a b i).2
  hR : u % v = R
  hk : k = CnQ.kq a b i
  q : (u - R).tdiv v = k
  ub : u.natAbs ≤ 1000000000000000000
  v0 : 1 ≤ v
  vb : v ≤ 1000000000000000000
  R0 : 0 ≤ R
  Rb : R < v
  kb : k.natAbs ≤ 1000000000000000000
theorem qs_of {a b : Int} {N : Nat} (h : CnQ.En a b N) (ha : a.natAbs ≤ 1000000000000000000) (hb : b ≤ 1000000000000000000) {i : Nat} (hi : i < N) : Qs a b i (CnQ.es a b i).1 (CnQ.es a b i).2 ((CnQ.es a b i).1 % (CnQ.es a b i).2) (CnQ.kq a b i) := by
  have p := h.pos i hi
  have d := h.down_le (i := i) (by omega)
  refine ⟨rfl, rfl, rfl, rfl, ?_, ?_, by omega, by omega, Int.emod_nonneg _ (by omega), Int.emod_lt_of_pos _ p, h.size ha (by have := h.b0; omega) hi⟩
  · have e := Int.mul_ediv_add_emod (CnQ.es a b i).1 (CnQ.es a b i).2
    have e2 : (CnQ.es a b i).1 - (CnQ.es a b i).1 % (CnQ.es a b i).2 = (CnQ.es a b i).2 * CnQ.kq a b i := by unfold CnQ.kq; omega
    rw [e2]
    exact Int.mul_tdiv_cancel_left _ (by omega)
  · rcases Nat.eq_zero_or_pos i with e | e
    · subst e; exact ha
    · have := h.up hi e; omega

set_option maxHeartbeats 4000000 in
theorem quotients_yields (a b : Int) (N ba bb : Nat) (h : CnQ.En a b N) (ha : a.natAbs ≤ 1000000000000000000) (hb : b ≤ 1000000000000000000) (n : Nat) (hn : 2 ≤ n) :
    YieldsE Fence.wide n Tryz.prog 128 #[.pointer (some ⟨ba, 0, none⟩), .pointer (some ⟨bb, 0, none⟩)] (fun x : Int => #[.int .i64 x]) (fun W => Cl ba [.int .i64 a] 3 W ∧ Cl bb [.int .i64 b] 3 W) (CnQ.ek a b N) true := by
  intro l J Jx W hJ hC hY hend h0
  have HY : Hid (∀ (o : Option Nat) (pre : List Int) (x : Int) (W1 : World), J o pre W1 → (∀ g, o = some g → W.heap.size ≤ g ∧ g < W1.heap.size) → W.heap.size ≤ W1.heap.size → pre ++ [x] <+: CnQ.ek a b N → YieldAt Fence.wide (n - 1) Tryz.prog l #[.int .i64 x] W1 fun e W' =>
      (e = .returned (.bool true) ∧ J o (pre ++ [x]) W' ∧ W1.heap.size ≤ W'.heap.size ∧ ∀ g, o = some g → W'.heap[g]? = W1.heap[g]?) ∨ (e = .returned (.bool false) ∧ Jx o (pre ++ [x]) W')) := hY
  have HJ : Hid (AbE J) := hJ
  have H0 : Hid (J none [] W) := h0
  have HE : Hid (CnQ.En a b N) := h
  have HQ : Hid (∀ i, i < N → Qs a b i (CnQ.es a b i).1 (CnQ.es a b i).2 ((CnQ.es a b i).1 % (CnQ.es a b i).2) (CnQ.kq a b i)) := fun i hi => qs_of h ha hb hi
  obtain ⟨ca, cb⟩ := hC _ _ _ h0
  have c0 := ca.cell 0
  have c1 := cb.cell 0
  simp only [List.getElem?_cons_zero] at c0 c1
  clear hY hJ hend h hC ca cb ha hb h0
  refine callsIn_of_wp Tryz.func128 rfl trivial ?_ rfl
  simp only [Tryz.ntmps128, List.size_toArray, List.length_cons, List.length_nil, Nat.reduceAdd, Nat.reduceSub, Array.replicate_succ, Array.replicate_zero, List.push_toArray, List.append_toArray, List.nil_append, List.cons_append]
  gi_wp2
  gi_region
  gi_wp2
  have HJ1 : Hid (J none [] W.drew) := HJ.out _ _ _ _ _ H0.out (grownBy_below (Below.refl _ _).drew none) (.inl rfl)
  clear c0 c1 H0
  gi_loopg [4, 5, 6] N (fun k pu pv pr wx => ∃ (i : Nat), pu = .int .i64 (CnQ.es a b i).1 ∧ pv = .int .i64 (CnQ.es a b i).2 ∧ i + k = N ∧ W.heap.size ≤ wx.heap.size ∧ Hid (J none (CnQ.ek a b i) wx))
  case atStart => exact ⟨0, rfl, rfl, by omega, by simp, HJ1.out⟩
  case round =>
    clear HJ1
    obtain ⟨i, rfl, rfl, hik, hz, HR⟩ := hrel
    by_cases hiN : i < N
    · have hq := HQ.out i hiN
      obtain ⟨u, hu⟩ : ∃ u, u = (CnQ.es a b i).1 := ⟨_, rfl⟩
      obtain ⟨v, hv⟩ : ∃ v, v = (CnQ.es a b i).2 := ⟨_, rfl⟩
      obtain ⟨K, hK⟩ : ∃ K, K = CnQ.kq a b i := ⟨_, rfl⟩
      obtain ⟨R, hR⟩ : ∃ R, R = (CnQ.es a b i).1 % (CnQ.es a b i).2 := ⟨_, rfl⟩
      rw [← hu, ← hv] at hR
      rw [← hu, ← hv, ← hR, ← hK] at hq
      rw [← hu, ← hv]
      have HLf : Hid (∀ W, Calls Tryz.prog 129 #[.int .i64 u, .int .i64 v] W fun e w' => e = .returned (.int .i64 R) ∧ w' = W) := fun W => by
        rw [hR]; exact modLeft_i u v W (by have := hq.ub; omega) hq.v0 hq.vb
      have hvb : (v != 0) = true := bne_iff_ne.2 (by have := hq.v0; omega)
      have hve : (v == 0) = false := beq_eq_false_iff_ne.2 (by have := hq.v0; omega)
      have hdiv := hq.q
      have hKw : wrap64 K = K := w64_id (by have := hq.kb; omega) (by have := hq.kb; omega)
      have HQs : Hid (Qs a b i u v R K) := hq
      have b1 := hq.ub
      have b2 := hq.R0
      have b3 := hq.Rb
      have b4 := hq.vb
      have b5 := hq.v0
      have HK9 : Hid (K = CnQ.kq a b i) := hK
      have HU9 : Hid (u = (CnQ.es a b i).1 ∧ v = (CnQ.es a b i).2 ∧ R = u % v) := ⟨hu, hv, hR⟩
      clear hu hv hR hK hq
      gi_wp2
      refine ⟨trivial, fun _ => by omega, ?_⟩
      refine (callsIn_wide.2 (HLf.out _)).mono ?_
      rintro e w2 ⟨rfl, hw2⟩
      rw [hw2]
      clear hw2 w2
      obtain ⟨fn, tmps, assign, body, hy, hRd⟩ := HY.out none (CnQ.ek a b i) K wr HR.out (fun g e => by cases e) hz (by rw [HK9.out, ← CnQ.ek_succ]; exact CnQ.ek_prefix a b (by omega))
      gi_wp2
      refine ⟨fun _ => by omega, hRd.mono ?_⟩
      rintro e W' (⟨rfl, hJ', zk, hk'⟩ | ⟨rfl, hJx'⟩)
      · have HJ4 : Hid (J none (CnQ.ek a b (i + 1)) W') := by
          have := hJ'
          rw [HK9.out, ← CnQ.ek_succ] at this; exact this
        clear hJ' hk' hRd hy
        gi_wp2
        gi_roundg (gk - 1)
        case rel =>
          have s := HE.out.step hiN
          refine ⟨i + 1, ?_, ?_, by omega, by omega, HJ4.out⟩
          · rw [s.1, ← HU9.out.2.1]
          · rw [s.2.1, ← HU9.out.1, ← HU9.out.2.1, ← HU9.out.2.2]
        case measure => omega
      · gi_wp2
        exact bodyPost_ret (results_none rfl _ _ _) rfl ⟨⟨_, rfl⟩, .inr ⟨_, _, hJx'⟩⟩
    · obtain rfl : i = N := by omega
      have hz0 : ((CnQ.es a b i).2 != 0) = false := by rw [HE.out.zero]; rfl
      gi_wp2
      exact bodyPost_end (results_none rfl _ _ _) rfl ⟨⟨_, rfl⟩, .inl ⟨trivial, none, HR.out⟩⟩

end Go.Proofs.YtcnfhndejkngkaaGreatDoor
end

section
/- slices.Collect of an iterator over numbers. -/
set_option linter.unusedSimpArgs false
set_option linter.unusedVariables false
set_option maxRecDepth 100000
namespace Go.Proofs.YtcnfhndejkngkaaGreatDoor
open Go.RowKit
attribute [local go_sem] Oper.semAt_some

/-- The list's box and its row. -/
structure AS (h : Nat) (w : World) (pre : List Int) (o : Option Nat) (W : World) : Prop where
  l : ∃ a c, Cl h [.slice a pre.length c] 65 W ∧ W.ownsRow (h + 3) 3 1 (.slice a pre.length c) pre.length (ints pre) ∧ ∀ g, (Value.slice a pre.length c).ownBlock = some g → o ≠ some g
  b : Below h w W
  o : ow (h + 1) o W

theorem AS.step {h : Nat} {w : World} {pre : List Int} {o o' : Option Nat} {W W' : World} (s : AS h w pre o W) (hg : W.grownBy W' o) (ho : o' = o ∨ ∃ g, o' = some g ∧ W.heap.size ≤ g) : AS h w pre o' W' := by
  obtain ⟨a, c, h1, h2, h3⟩ := s.l
  refine ⟨⟨a, c, h1.grown hg (s.o.ne (by omega)), row_kept h2 (fun g e => hg.block g (h2.lt g e).2 (fun e2 => h3 g e e2.symm)), ?_⟩, s.b.grown hg (by have := s.o.1; omega) (fun k e => by have := s.o.2 k e; omega), s.o.step hg ho⟩
  intro g e
  rcases ho with h4 | ⟨g2, h4, h5⟩
  · rw [h4]; exact h3 g e
  · rw [h4]; intro e2; cases e2; have := (h2.lt g e).2; omega
theorem AS.put {h : Nat} {w : World} {pre : List Int} {o : Option Nat} {W : World} (s : AS h w pre o W) (ob : Obj) (k : Nat) (hk : k = h + 1 ∨ k = h + 2) : AS h w pre o (W.putObj k ob) := by
  obtain ⟨a, c, h1, h2, h3⟩ := s.l
  exact ⟨⟨a, c, h1.put ob (by omega), row_kept h2 (fun g e => World.putObj_heap_other (by have := (h2.lt g e).1; omega)), h3⟩, s.b.grown (grownBy_putObj' W _ ob) (by have := s.o.1; omega) (fun k e => by cases e; omega), s.o.put ob⟩
theorem ints_app1 (l : List Int) (x : Int) : ints (l ++ [x]) = ints l ++ [.int .i64 x] := by simp [ints]

set_option maxHeartbeats 8000000 in
theorem AppendSeq_any (gf : Nat) (lb : Array Value) (C : World → Prop) (xs : List Int) (hx : xs.length ≤ 100000) (w : World) (hseq : ∀ n, 2 ≤ n → YieldsE Fence.wide n Tryz.prog gf lb (fun x : Int => #[.int .i64 x]) C xs true)
    (eg : ∀ args w, (callFunc gf args).run Tryz.prog w = .ok (.enter gf args) w) (hC : ∀ W, Below w.heap.size w W → C W) :
    Calls Tryz.prog 127 #[.slice none 0 0, .func (.func gf) #[] lb] w fun e w' => ∃ a c, e = .returned (.slice a xs.length c) ∧ w'.ownsRow w.heap.size 3 1 (.slice a xs.length c) xs.length (ints xs) ∧ Below w.heap.size w w' := by
  obtain ⟨i0, hi, hz0, hz1, hz2⟩ := info_parts Tryz.infoInt
  have HI : Hid (Tryz.prog.info? 3 = some i0 ∧ i0.zero = some (.int .i64 0) ∧ i0.size = 1 ∧ i0.bytes = 8) := ⟨hi, hz0, hz1, hz2⟩
  have HS : Hid (∀ n, 2 ≤ n → YieldsE Fence.wide n Tryz.prog gf lb (fun x : Int => #[.int .i64 x]) C xs true) := hseq
  have HC : Hid (∀ W, Below w.heap.size w W → C W) := hC
  have HE : Hid (∀ args w, (callFunc gf args).run Tryz.prog w = .ok (.enter gf args) w) := eg
  clear hi hz0 hz1 hz2 hseq hC eg
  refine (callsIn_wide (n := 6)).1 ?_
  refine callsIn_of_wp_marks Tryz.func127 rfl trivial ?_ rfl
  simp only [Tryz.ntmps127, List.size_toArray, List.length_cons, List.length_nil, Nat.reduceAdd, Nat.reduceSub, Array.replicate_succ, Array.replicate_zero, List.push_toArray, List.append_toArray, List.nil_append, List.cons_append]
  gi_wp2
  obtain ⟨w1, hw1⟩ : ∃ w1, w1 = w.alloc (.cells #[.slice none 0 0] 65) := ⟨_, rfl⟩
  rw [← hw1]
  have z1 : w1.heap.size = w.heap.size + 1 := by rw [hw1, World.size_alloc]
  have C0 : AS w.heap.size w [] none w1 := by
    refine ⟨⟨none, 0, ?_, World.ownsRow_nil _ _ _ _, fun g e => by simp⟩, ?_, ⟨by omega, fun g e => by cases e⟩⟩
    · rw [hw1]; exact Cl.new [.slice none 0 0] 65 w
    · rw [hw1]; exact (Below.refl _ _).alloc (Nat.le_refl _) _
  clear hw1
  refine wpIn_rangeE (F := Fence.wide) (n := 6) rfl (by decide) (gf := gf) (lb := lb) rfl trivial HE.out (HS.out _ (by decide)) (fun _ => rfl)
    (fun o pre W => AS w.heap.size w pre o W)
    (fun c o pre W => False)
    ?ab ?abp ?abx (fun o s W h => HC.out W h.b) C0
    (fun x => { tmps := #[.slice none 0 0, .func (.func gf) #[] lb, .pointer (some ⟨w.heap.size, 0, none⟩), undef, .slice none 0 0, .int .i64 x, .func (.func gf) #[] lb, .int .i64 x, undef, undef, undef, undef, undef], defers := [] }) ?assign ?body ?hend ?done ?stop
  case ab => exact fun o s A B o' h hg ho => h.step hg ho
  case abp => exact fun o s A ob h => h.put ob _ (by omega)
  case abx => exact fun c o s A ob h => h
  case assign =>
    intro l x W K hK
    gi_wp2
    exact hK
  case hend => intro hf; cases hf
  case body =>
    rintro l o pre x W hst hog hpre hz
    obtain ⟨n, hn⟩ : ∃ n, n = pre.length := ⟨_, rfl⟩
    have hn1 : n ≤ 100000 := by have := hpre.length_le; simp at this; omega
    obtain ⟨a, c, h1, h2, h3⟩ := hst.l
    rw [← hn] at h1 h2 h3
    have q1 := h1.cell 0
    have q2 := h1.frozen 0
    simp at q1
    have HST : Hid (AS w.heap.size w pre o W) := hst
    have HV : Hid (Cl w.heap.size [.slice a n c] 65 W) := h1
    have HROW : Hid (W.ownsRow (w.heap.size + 3) 3 1 (.slice a n c) n (ints pre)) := h2
    have HNO : Hid (∀ g, (Value.slice a n c).ownBlock = some g → o ≠ some g) := h3
    have HOG : Hid (∀ g, o = some g → w1.heap.size + 2 ≤ g ∧ g < W.heap.size) := hog
    have HNn : Hid (n = pre.length) := hn
    clear h1 h2 h3 hst hn hog hpre
    gi_wp2_with (gi_at_builtin; refine wpListIn_append_own_at _ rfl _ _ 65 rfl (w.heap.size + 3) 3 i0 (.int .i64 0) 1 8 Tryz.underlying65 HI.out.1 HI.out.2.1 HI.out.2.2.1 HI.out.2.2.2 rfl (by decide) (.slice a n c) n (ints pre) rfl (HROW.out.alloc _) ⟨W.heap.size, 0, none⟩ 1 1 [.int .i64 x] rfl rfl (cell_one_new _ _ _) (by simp [Value.oneCell']) (by simp only [maxLen]; omega) (by omega) (by simp; omega) ?_; intro v' w2 hown' hgrow _ hob; obtain ⟨g', cap', rfl⟩ := ownsRow_succ hown'; have hnb : ∀ b, b < w.heap.size + 3 → (Value.slice a n c).ownBlock ≠ some b := fun b hb e => by { have := (HROW.out.lt b e).1; omega }; have A1 : Cl w.heap.size [.slice a n c] 65 w2 := (HV.out.alloc _).grown hgrow (hnb _ (by omega)); have r1 := A1.cell 0; have r2 := A1.frozen 0; simp at r1)
    have NK : ¬ keptE w1.heap.size o w.heap.size := by
      rintro (e | e | e)
      · omega
      · omega
      · have := (HOG.out _ e).1; omega
    have hzW := HST.out.o.1
    have hA2 := A1.set 0 (.slice (some ⟨g', 0, none⟩) (n + 1) cap')
    refine ⟨?_, ?_⟩
    · refine (((KP.refl _ W).alloc _).grown hgrow (fun g e h => ?_)).setCell NK _
      have h5 := (HROW.out.lt g e).1
      rcases h with h | h | h
      · omega
      · omega
      · exact HNO.out g e h
    · have hlen : (pre ++ [x]).length = n + 1 := by rw [HNn.out]; simp
      refine ⟨⟨some ⟨g', 0, none⟩, cap', ?_, ?_, ?_⟩, ?_, ?_⟩
      · rw [hlen]; exact hA2
      · rw [hlen, ints_app1]
        exact ownsRow_setCell_below hown' (by show w.heap.size < _; omega) _
      · rw [hlen]
        intro g e e2
        have e3 : (Value.slice (some ⟨g', 0, none⟩) (n + 1) cap').ownBlock = some g := e
        rcases hob with h | h
        · exact HNO.out g (h ▸ e3) e2
        · rw [h] at e3
          have h5 := (HOG.out g e2).2
          simp at e3
          omega
      · exact ((HST.out.b.alloc (by omega) _).grown hgrow (by simp; omega) (fun k e => by have := (HROW.out.lt k e).1; omega)).setCell (by simp) _
      · refine HST.out.o.size ?_
        have := hgrow.size
        simp [World.setCell] at this ⊢
        omega
  case done =>
    rintro hf o W hst hK
    obtain ⟨a, c, h1, h2, h3⟩ := hst.l
    have q1 := h1.cell 0
    simp at q1
    have HST : Hid (AS w.heap.size w xs o W) := hst
    have HROW : Hid (W.ownsRow (w.heap.size + 3) 3 1 (.slice a xs.length c) xs.length (ints xs)) := h2
    have HK : Hid (W.heap[w.heap.size + 1]? = some (.deferred (some []))) := by rw [z1] at hK; exact hK
    clear h1 h2 h3 hst hK
    gi_wp2
    refine ⟨by simp, .inl ⟨_, _, rfl, run_takeDeferred HK.out, ?_⟩⟩
    refine ⟨.slice a xs.length c, by simp [results, Tryz.results127, go_sem], a, c, rfl, ?_, HST.out.b.grown (grownBy_putObj' _ _ _) HST.out.b.size (fun k e => by cases e; omega)⟩
    exact ownsRow_lower (B := w.heap.size + 3) (row_kept HROW.out (fun g e => World.putObj_heap_other (by have := (HROW.out.lt g e).1; omega))) (by omega)
  case stop =>
    rintro c o pre W hf
    exact hf.elim

set_option maxHeartbeats 1000000 in
theorem Collect_any (gf : Nat) (lb : Array Value) (C : World → Prop) (xs : List Int) (hx : xs.length ≤ 100000) (w : World) (hseq : ∀ n, 2 ≤ n → YieldsE Fence.wide n Tryz.prog gf lb (fun x : Int => #[.int .i64 x]) C xs true)
    (eg : ∀ args w, (callFunc gf args).run Tryz.prog w = .ok (.enter gf args) w) (hC : ∀ W, Below w.heap.size w W → C W) :
    Calls Tryz.prog 100 #[.func (.func gf) #[] lb] w fun e w' => ∃ a c, e = .returned (.slice a xs.length c) ∧ w'.ownsRow w.heap.size 3 1 (.slice a xs.length c) xs.length (ints xs) ∧ Below w.heap.size w w' := by
  have HA : Hid (Calls Tryz.prog 127 #[.slice none 0 0, .func (.func gf) #[] lb] w fun e w' => ∃ a c, e = .returned (.slice a xs.length c) ∧ w'.ownsRow w.heap.size 3 1 (.slice a xs.length c) xs.length (ints xs) ∧ Below w.heap.size w w') := AppendSeq_any gf lb C xs hx w hseq eg hC
  clear hseq eg hC
  go_enter Tryz.func100, Tryz.ntmps100
  go_wp2_with fail
  refine HA.out.mono ?_
  rintro e w1 ⟨a, c, rfl, h1, k1⟩
  go_wp2
  go_ret
  exact ⟨a, c, rfl, h1, k1⟩

end Go.Proofs.YtcnfhndejkngkaaGreatDoor
end
