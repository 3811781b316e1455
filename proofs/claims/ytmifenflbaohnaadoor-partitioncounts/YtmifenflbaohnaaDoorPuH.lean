/- The program: pentagonals and its iterator. -/
import Derived.Test.YtmifenflbaohnaaDoorRangeS
import Derived.Test.YtmifenflbaohnaaDoorJnB
import Derived.Test.YtmifenflbaohnaaDoorRsK
import Derived.Sort.LoopGhostIn
set_option linter.unusedSimpArgs false
set_option linter.unusedVariables false
set_option maxRecDepth 100000
namespace Go.Proofs.YtmifenflbaohnaaDoor
open Go.RowKit
attribute [local go_sem] Oper.semAt_some undef

/-- Whether k is odd. -/
def kod (k : Nat) : Bool := decide (k % 2 = 1)
/-- What comes of k, up to n. -/
def pg1 (n k : Nat) : List (Nat × Bool) := (PT.pgn k, kod k) :: if PT.pgn k + k ≤ n then [(PT.pgn k + k, kod k)] else []
/-- What comes up to K. -/
def pgl (n : Nat) : Nat → List (Nat × Bool)
  | 0 => []
  | K + 1 => pgl n K ++ pg1 n (K + 1)
theorem pgl_pre (n : Nat) {K K' : Nat} (h : K ≤ K') : pgl n K <+: pgl n K' := by
  induction K' with
  | zero => obtain rfl : K = 0 := by omega
            exact List.prefix_refl _
  | succ K' ih =>
    by_cases e : K = K' + 1
    · subst e; exact List.prefix_refl _
    · exact (ih (by omega)).trans (List.prefix_append _ _)
theorem pgl_one (n : Nat) {K K' : Nat} (h : K < K') : pgl n K ++ [(PT.pgn (K + 1), kod (K + 1))] <+: pgl n K' := by
  refine List.IsPrefix.trans ?_ (pgl_pre n (show K + 1 ≤ K' by omega))
  show _ <+: pgl n K ++ ((PT.pgn (K + 1), kod (K + 1)) :: _)
  exact ⟨if PT.pgn (K + 1) + (K + 1) ≤ n then [(PT.pgn (K + 1) + (K + 1), kod (K + 1))] else [], by simp⟩
theorem pgl_two (n : Nat) {K K' : Nat} (h : K < K') (h2 : PT.pgn (K + 1) + (K + 1) ≤ n) : pgl n K ++ [(PT.pgn (K + 1), kod (K + 1))] ++ [(PT.pgn (K + 1) + (K + 1), kod (K + 1))] = pgl n (K + 1) := by
  show _ = pgl n K ++ pg1 n (K + 1)
  unfold pg1
  rw [if_pos h2]; simp
theorem pgl_not (n : Nat) {K : Nat} (h2 : ¬ PT.pgn (K + 1) + (K + 1) ≤ n) : pgl n K ++ [(PT.pgn (K + 1), kod (K + 1))] = pgl n (K + 1) := by
  show _ = pgl n K ++ pg1 n (K + 1)
  unfold pg1
  rw [if_neg h2]

set_option maxHeartbeats 1000000 in
theorem pentagonals_any (n : Nat) (w : World) :
    Calls Tryd.prog 55 #[.int .i64 (n : Int)] w fun e w' => e = .returned (.func (.func 71) #[] #[.pointer (some ⟨w.heap.size, 0, none⟩)]) ∧ w' = w.alloc (.cells #[.int .i64 (n : Int)] 3) := by
  go_enter Tryd.func55, Tryd.ntmps55
  go_wp2
  go_ret
  exact ⟨rfl, rfl⟩

def enP (x : Nat × Bool) (_ : Nat → Prop) (_ : World) (vs : Array Value) : Prop := vs = #[.int .i64 (x.1 : Int), .bool x.2]
def NoB (O : Nat → Prop) : Prop := O = No

set_option maxRecDepth 100000 in
set_option maxHeartbeats 4000000 in
theorem pentagonals_yields (n b K : Nat) (hn : n ≤ 2000) (hK : K ≤ 36) (hlo : ∀ k, k ≤ K → 1 ≤ k → PT.pgn k ≤ n) (hhi : n < PT.pgn (K + 1)) (m : Nat) (hm : 2 ≤ m) :
    YieldsS NoB Fence.wide m Tryd.prog 71 #[.pointer (some ⟨b, 0, none⟩)] enP (fun W => Cl b [.int .i64 (n : Int)] 3 W) (pgl n K) := by
  intro lp J Jx W hJ _ hC hY h0
  have HY : Hid (∀ (pre : List (Nat × Bool)) (x : Nat × Bool) (W1 : World), J No pre W1 → W.heap.size ≤ W1.heap.size → pre ++ [x] <+: pgl n K → YieldAt Fence.wide (m - 1) Tryd.prog lp #[.int .i64 (x.1 : Int), .bool x.2] W1 fun e W' =>
      (e = .returned (.bool true) ∧ J No (pre ++ [x]) W' ∧ W1.heap.size ≤ W'.heap.size) ∨ (e = .returned (.bool false) ∧ Jx No (pre ++ [x]) W')) := by
    intro pre x W1 h1 h2 h3
    obtain ⟨fn, tmps, assign, body, hy, hRd⟩ := hY No pre x W1 _ rfl h1 (fun g e => e.elim) h2 h3 rfl
    refine ⟨fn, tmps, assign, body, hy, hRd.mono ?_⟩
    rintro e W' ⟨⟨h1, h2⟩ | h, h3, _⟩
    · exact .inl ⟨h1, h2, h3⟩
    · exact .inr h
  have HC : Hid (∀ s W1, J No s W1 → Cl b [.int .i64 (n : Int)] 3 W1) := fun s W1 h => hC _ s W1 h
  have H0 : Hid (J No [] W) := h0
  have HLo : Hid (∀ k, k ≤ K → 1 ≤ k → PT.pgn k ≤ n) := hlo
  have HHi : Hid (n < PT.pgn (K + 1)) := hhi
  clear hY hJ hC h0 hlo hhi
  refine callsIn_of_wp Tryd.func71 rfl trivial ?_ rfl
  simp only [Tryd.ntmps71, List.size_toArray, List.length_cons, List.length_nil, Nat.reduceAdd, Nat.reduceSub, Array.replicate_succ, Array.replicate_zero, List.push_toArray, List.append_toArray, List.nil_append, List.cons_append]
  gi_wp2
  gi_loopg [3] (K + 1) (fun gk kv wx => ∃ j : Nat, kv = .int .i64 ((j + 1 : Nat) : Int) ∧ j + gk = K + 1 ∧ j ≤ K ∧ W.heap.size ≤ wx.heap.size ∧ Hid (J No (pgl n j) wx))
  case atStart => exact ⟨0, rfl, by omega, by omega, Nat.le_refl _, H0.out⟩
  case round =>
    clear H0
    obtain ⟨j, rfl, hjk, hjK, hz, HR⟩ := hrel
    obtain ⟨k, hk⟩ : ∃ k, k = j + 1 := ⟨_, rfl⟩
    obtain ⟨p, hp⟩ : ∃ p, p = PT.pgn k := ⟨_, rfl⟩
    obtain ⟨u, hu⟩ : ∃ u, u = 3 * k - 1 := ⟨_, rfl⟩
    obtain ⟨q, hq⟩ : ∃ q, q = k * u := ⟨_, rfl⟩
    have hpq : p = q / 2 := by rw [hp, hq, hu]; rfl
    have hqb : q ≤ 37 * 110 := by rw [hq]; exact Nat.mul_le_mul (by omega) (by omega)
    have e1 : 3 * (k : Int) - 1 = (u : Int) := by omega
    have e2 : (k : Int) * (u : Int) = (q : Int) := by rw [hq, Int.natCast_mul]
    have e3 : (q : Int) / 2 = (p : Int) := by omega
    have hkb : k ≤ 37 := by omega
    have c0 := (HC.out _ _ HR.out).cell 0
    simp only [List.getElem?_cons_zero] at c0
    rw [← hk]
    have HP : Hid (p = PT.pgn (j + 1)) := by show _ = _; rw [hp, hk]
    have HKj : Hid (k = j + 1) := hk
    by_cases hjl : j < K
    · have ht : p ≤ n := by rw [hp]; exact HLo.out k (by omega) (by omega)
      have t0 : decide ((p : Int) ≤ (n : Int)) = true := decide_eq_true (by omega)
      obtain ⟨bo, hbo⟩ : ∃ bo, bo = kod (j + 1) := ⟨_, rfl⟩
      have e4 : ((k : Int) % 2 == 1) = bo := by
        rw [hbo, hk]; unfold kod
        by_cases e : (j + 1) % 2 = 1
        · rw [decide_eq_true e]; exact beq_iff_eq.2 (by omega)
        · rw [decide_eq_false e]; exact beq_eq_false_iff_ne.2 (by omega)
      obtain ⟨fn, tmps, assign, body, hy, hRd⟩ := HY.out (pgl n j) (p, bo) wr HR.out hz (by rw [hbo, hp, hk]; exact pgl_one n hjl)
      have HBo : Hid (bo = kod (j + 1)) := hbo
      simp only [] at hy
      clear hp hq hu hpq hbo hk
      gi_wp2
      refine ⟨fun _ => by omega, hRd.mono ?_⟩
      rintro e W' (⟨rfl, hJ', zk⟩ | ⟨rfl, hJx'⟩)
      · have c0' := (HC.out _ _ hJ').cell 0
        simp only [List.getElem?_cons_zero] at c0'
        have HJ4 : Hid (J No (pgl n j ++ [(p, bo)]) W') := hJ'
        clear hJ' hRd hy c0
        by_cases h2 : p + k ≤ n
        · have t2 : decide ((p : Int) + (k : Int) ≤ (n : Int)) = true := decide_eq_true (by omega)
          have HE : Hid (pgl n j ++ [(p, bo)] ++ [(p + k, bo)] = pgl n (j + 1)) := by
            show _ = _
            have := pgl_two n hjl (by rw [← HP.out, ← HKj.out]; exact h2)
            rw [← HP.out, ← HKj.out] at this
            rw [HBo.out, ← HKj.out]
            rw [HKj.out] at this ⊢
            exact this
          obtain ⟨fn, tmps, assign, body, hy, hRd⟩ := HY.out (pgl n j ++ [(p, bo)]) (p + k, bo) W' HJ4.out (by omega) (by rw [HE.out]; exact pgl_pre n (by omega))
          simp only [Int.natCast_add] at hy
          gi_wp2
          refine ⟨fun _ => by omega, hRd.mono ?_⟩
          rintro e W2 (⟨rfl, hJ2, zk2⟩ | ⟨rfl, hJx2⟩)
          · have HJ5 : Hid (J No (pgl n (j + 1)) W2) := by rw [← HE.out]; exact hJ2
            clear hJ2 hRd hy
            gi_wp2
            gi_roundg (gk - 1)
            case rel => exact ⟨j + 1, by rw [HKj.out]; go_num, by omega, by omega, by omega, HJ5.out⟩
            case measure => omega
          · gi_wp2
            exact bodyPost_ret (results_none rfl _ _ _) rfl ⟨⟨_, rfl⟩, .inr ⟨_, _, hJx2⟩⟩
        · have t2 : decide ((p : Int) + (k : Int) ≤ (n : Int)) = false := decide_eq_false (by omega)
          have HJ5 : Hid (J No (pgl n (j + 1)) W') := by
            have := pgl_not n (K := j) (by rw [← HP.out, ← HKj.out]; exact h2)
            rw [← HP.out, ← HBo.out] at this
            rw [← this]; exact HJ4.out
          gi_wp2
          gi_roundg (gk - 1)
          case rel => exact ⟨j + 1, by rw [HKj.out]; go_num, by omega, by omega, by omega, HJ5.out⟩
          case measure => omega
      · clear hRd hy
        gi_wp2
        exact bodyPost_ret (results_none rfl _ _ _) rfl ⟨⟨_, rfl⟩, .inr ⟨_, _, hJx'⟩⟩
    · obtain rfl : j = K := by omega
      have ht : n < p := by rw [hp, hk]; exact HHi.out
      have t0 : decide ((p : Int) ≤ (n : Int)) = false := decide_eq_false (by omega)
      clear hp hq hu hpq hk
      gi_wp2
      exact bodyPost_end (results_none rfl _ _ _) rfl ⟨⟨_, rfl⟩, .inl ⟨_, rfl, HR.out⟩⟩

end Go.Proofs.YtmifenflbaohnaaDoor
