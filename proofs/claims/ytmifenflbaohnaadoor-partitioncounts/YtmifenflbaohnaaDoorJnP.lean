import Derived.Test.YtmifenflbaohnaaDoorJnL
import Derived.BigQuiet
import Derived.Test.YtmifenflbaohnaaDoorJnB
section
/- The reference: Greater. -/
set_option linter.unusedSimpArgs false
set_option linter.unusedVariables false
set_option maxRecDepth 100000
namespace Go.Proofs.YtmifenflbaohnaaDoor
open Go.RowKit

/-- Is a ahead of b: greater where they differ first? -/
def PT.gtr : List Int → List Int → Bool
  | x :: a, y :: b => if x = y then PT.gtr a b else decide (y < x)
  | _, _ => false
theorem PT.gtr_nil {a b : List Int} (h : a = [] ∨ b = []) : PT.gtr a b = false := by
  rcases h with rfl | rfl
  · cases b <;> rfl
  · cases a <;> rfl

set_option maxRecDepth 100000 in
set_option maxHeartbeats 2000000 in
theorem refGreater_any (v v' : Value) (a b : List Int) (w : World) (h : IS w v a) (h' : IS w v' b) (hl : a.length ≤ 1000000) (hl' : b.length ≤ 1000000) :
    Calls Tryd.prog 13 #[v, v'] w fun e w' => e = .returned (.bool (PT.gtr a b)) ∧ Below w.heap.size w w' := by
  obtain ⟨aa, g, oo, cap, rfl, ha, hc⟩ := h.open'
  obtain ⟨aa', g', oo', cap', rfl, ha', hc'⟩ := h'.open'
  have HA : Hid (0 < a.length → aa = some ⟨g, oo, none⟩) := ha
  have HA' : Hid (0 < b.length → aa' = some ⟨g', oo', none⟩) := ha'
  have HC : Hid (∀ W, Below w.heap.size w W → ∀ i, i < a.length → W.cell? ⟨g, oo + i, none⟩ = some (.int .i64 (a.getD i 0))) := hc
  have HC' : Hid (∀ W, Below w.heap.size w W → ∀ i, i < b.length → W.cell? ⟨g', oo' + i, none⟩ = some (.int .i64 (b.getD i 0))) := hc'
  obtain ⟨N, hN⟩ : ∃ N, N = a.length := ⟨_, rfl⟩
  have HN : Hid (N = a.length) := hN
  obtain ⟨M, hM⟩ : ∃ N, N = b.length := ⟨_, rfl⟩
  have HM : Hid (M = b.length) := hM
  rw [← hN] at hl
  rw [← hM] at hl'
  rw [← hN, ← hM]
  clear h h' ha hc ha' hc' hN hM
  go_enter Tryd.func13, Tryd.ntmps13
  go_wp2
  go_loopg [5] N (fun gk iv wx => ∃ i : Nat, iv = .int .i64 (i : Int) ∧ Hid (gk = N - i ∧ i ≤ N ∧ PT.gtr a b = PT.gtr (a.drop i) (b.drop i) ∧ Below w.heap.size w wx))
  case atStart => exact ⟨0, rfl, rfl, by omega, rfl, Below.refl _ _⟩
  case round =>
    obtain ⟨i, rfl, HR⟩ := hrel
    obtain ⟨h1, h2, h3, h4⟩ := HR.out
    have HK : Hid (gk = N - i) := h1
    have HG : Hid (PT.gtr a b = PT.gtr (a.drop i) (b.drop i)) := h3
    have HW : Hid (Below w.heap.size w wr) := h4
    clear HR h1 h3 h4
    by_cases hi : i < N
    · have ti : decide ((i : Int) < (N : Int)) = true := decide_eq_true (by omega)
      have tin : decide (i < N) = true := decide_eq_true hi
      by_cases hj : i < M
      · have tj : decide ((i : Int) < (M : Int)) = true := decide_eq_true (by omega)
        have tjn : decide (i < M) = true := decide_eq_true hj
        have hil : i < a.length := by have := HN.out; omega
        have hjl : i < b.length := by have := HM.out; omega
        obtain rfl := HA.out (by omega)
        obtain rfl := HA'.out (by omega)
        have c0 := HC.out _ HW.out i hil
        have c1 := HC'.out _ HW.out i hjl
        have HS : Hid (PT.gtr a b = if a.getD i 0 = b.getD i 0 then PT.gtr (a.drop (i + 1)) (b.drop (i + 1)) else decide (b.getD i 0 < a.getD i 0)) := by
          show _ = _
          rw [HG.out, PT.drop_s hil, PT.drop_s hjl, PT.gtr]
        obtain ⟨x, hx⟩ : ∃ x, a.getD i 0 = x := ⟨_, rfl⟩
        obtain ⟨y, hy⟩ : ∃ y, b.getD i 0 = y := ⟨_, rfl⟩
        rw [hx] at c0 HS
        rw [hy] at c1 HS
        have x1 : (i : Int) < (N : Int) := by omega
        have x2 : (i : Int) < (M : Int) := by omega
        clear hx hy
        by_cases e : x = y
        · have te : (x != y) = false := by rw [e]; exact bne_self_eq_false y
          have HS2 : Hid (PT.gtr a b = PT.gtr (a.drop (i + 1)) (b.drop (i + 1))) := by show _ = _; rw [HS.out, if_pos e]
          clear e
          go_wp2_with fail
          go_quiet (fail)
          go_wp2
          go_roundg (N - (i + 1))
          case rel => exact ⟨i + 1, by go_num, rfl, by omega, HS2.out, below_drewN' HW.out⟩
          case measure => have := HK.out; omega
        · have te : (x != y) = true := bne_iff_ne.2 e
          have HS2 : Hid (PT.gtr a b = decide (y < x)) := by show _ = _; rw [HS.out, if_neg e]
          clear e
          go_wp2_with fail
          go_quiet (fail)
          go_wp2_with fail
          go_quiet (fail)
          go_wp2
          go_ret
          refine ⟨by rw [HS2.out]; rfl, ?_⟩
          exact below_drewN' (below_drewN' HW.out)
      · have tj : decide ((i : Int) < (M : Int)) = false := decide_eq_false (by omega)
        have tjn : decide (i < M) = false := decide_eq_false hj
        have HE : Hid (PT.gtr a b = false) := by show _ = _; rw [HG.out, PT.gtr_nil (.inr (List.drop_eq_nil_of_le (by have := HM.out; omega)))]
        go_wp2
        go_ret
        exact ⟨by rw [HE.out]; rfl, HW.out⟩
    · have ti : decide ((i : Int) < (N : Int)) = false := decide_eq_false (by omega)
      have tin : decide (i < N) = false := decide_eq_false hi
      have HE : Hid (PT.gtr a b = false) := by show _ = _; rw [HG.out, PT.gtr_nil (.inl (List.drop_eq_nil_of_le (by have := HN.out; omega)))]
      go_wp2
      go_ret
      exact ⟨by rw [HE.out]; rfl, HW.out⟩

end Go.Proofs.YtmifenflbaohnaaDoor
end

section
/- Plain facts: all partitions, the greater ones first. -/
set_option linter.unusedSimpArgs false
set_option linter.unusedVariables false
set_option maxRecDepth 100000
namespace Go.Proofs.YtmifenflbaohnaaDoor
namespace PT

/-- All partitions of n with parts of at most m, the greater ones first. -/
def ptl : Nat → Nat → Nat → List (List Int)
  | 0, n, _ => if n = 0 then [[]] else []
  | f + 1, n, m => if n = 0 then [[]] else (List.range (min n m)).flatMap fun j => (ptl f (n - (min n m - j)) (min n m - j)).map fun r => ((min n m - j : Nat) : Int) :: r
/-- Those of the first j first parts, from K on down. -/
def pacc (f n K j : Nat) : List (List Int) := (List.range j).flatMap fun i => (ptl f (n - (K - i)) (K - i)).map fun r => ((K - i : Nat) : Int) :: r
theorem pacc_zero (f n K : Nat) : pacc f n K 0 = [] := rfl
theorem pacc_succ (f n K j : Nat) : pacc f n K (j + 1) = pacc f n K j ++ (ptl f (n - (K - j)) (K - j)).map fun r => ((K - j : Nat) : Int) :: r := by
  unfold pacc
  rw [List.range_succ, List.flatMap_append]; simp
theorem ptl_succ {f n m : Nat} (h : n ≠ 0) : ptl (f + 1) n m = pacc f n (min n m) (min n m) := by rw [ptl, if_neg h]; rfl
theorem pacc_pre (f n K : Nat) {i j : Nat} (h : i ≤ j) : pacc f n K i <+: pacc f n K j := by
  induction j with
  | zero => obtain rfl : i = 0 := by omega
            exact List.prefix_refl _
  | succ j ih =>
    by_cases e : i = j + 1
    · subst e; exact List.prefix_refl _
    · rw [pacc_succ]; exact (ih (by omega)).trans (List.prefix_append _ _)
theorem pacc_at (f n K j : Nat) (hj : j < K) {pre : List (List Int)} {x : List Int} (h : pre ++ [x] <+: ptl f (n - (K - j)) (K - j)) : (pacc f n K j ++ pre.map fun r => ((K - j : Nat) : Int) :: r) ++ [((K - j : Nat) : Int) :: x] <+: pacc f n K K := by
  refine List.IsPrefix.trans ?_ (pacc_pre f n K (show j + 1 ≤ K by omega))
  rw [pacc_succ, List.append_assoc]
  refine (List.prefix_append_right_inj _).2 ?_
  have := h.map (fun r => ((K - j : Nat) : Int) :: r)
  rw [List.map_append] at this
  exact this

/-- What is so of each. -/
structure Pp1 (n m : Nat) (r : List Int) : Prop where
  rng : ∀ j, j < r.length → 1 ≤ r.getD j 0 ∧ r.getD j 0 ≤ m
  dn : ∀ j, j + 1 < r.length → r.getD (j + 1) 0 ≤ r.getD j 0
  sum : r.sum = n
theorem Pp1.cons {n k : Nat} {r : List Int} (h : Pp1 n k r) (hk : 1 ≤ k) : Pp1 (n + k) k ((k : Int) :: r) := by
  refine ⟨fun j hj => ?_, fun j hj => ?_, ?_⟩
  · cases j with
    | zero => simp; omega
    | succ j => simpa using h.rng j (by simpa using hj)
  · cases j with
    | zero => simpa using (h.rng 0 (by simpa using hj)).2
    | succ j => simpa using h.dn j (by simpa using hj)
  · rw [List.sum_cons, h.sum]; omega
theorem Pp1.mono {n k m : Nat} {r : List Int} (h : Pp1 n k r) (hk : k ≤ m) : Pp1 n m r := ⟨fun j hj => ⟨(h.rng j hj).1, by have := (h.rng j hj).2; omega⟩, h.dn, h.sum⟩
theorem Pp1.nil (m : Nat) : Pp1 0 m [] := ⟨fun j hj => by simp at hj, fun j hj => by simp at hj, rfl⟩
theorem ptl_each : ∀ f n m, n ≤ f → ∀ r ∈ ptl f n m, Pp1 n m r
  | 0, n, m, hn, r, hr => by
    obtain rfl : n = 0 := by omega
    rw [ptl, if_pos rfl] at hr
    rw [List.mem_singleton.1 hr]; exact Pp1.nil m
  | f + 1, n, m, hn, r, hr => by
    by_cases h0 : n = 0
    · subst h0
      rw [ptl, if_pos rfl] at hr
      rw [List.mem_singleton.1 hr]; exact Pp1.nil m
    · rw [ptl_succ h0] at hr
      unfold pacc at hr
      obtain ⟨i, hi, hr⟩ := List.mem_flatMap.1 hr
      obtain ⟨s, hs, e⟩ := List.mem_map.1 hr
      have hi := List.mem_range.1 hi
      obtain ⟨k, hk⟩ : ∃ k, k = min n m - i := ⟨_, rfl⟩
      rw [← hk] at hs e
      have h1 := ptl_each f (n - k) k (by omega) s hs
      have h2 := h1.cons (by omega : 1 ≤ k)
      rw [show n - k + k = n by omega] at h2
      rw [← e]
      exact h2.mono (by omega)
/-- How many. -/
theorem pacc_len (f n : Nat) (ih : ∀ k, 1 ≤ k → k ≤ n → (ptl f (n - k) k).length = pt k (n - k)) : ∀ K j, j ≤ K → K ≤ n → (pacc f n K j).length + pt (K - j) n = pt K n
  | K, 0, _, _ => by simp [pacc]
  | K, j + 1, hj, hK => by
    have h1 := pacc_len f n ih K j (by omega) hK
    rw [pacc_succ, List.length_append, List.length_map, ih (K - j) (by omega) (by omega)]
    obtain ⟨k, hk⟩ : ∃ k, K - j = k + 1 := ⟨K - j - 1, by omega⟩
    rw [hk] at h1 ⊢
    rw [pt_ge (k := k) (m := n) (by omega)] at h1
    rw [show K - (j + 1) = k by omega]
    omega
theorem pt_min (m n : Nat) : pt (min n m) n = pt m n := by
  rcases Nat.le_total n m with h | h
  · rw [Nat.min_eq_left h, pt_same m n h]
  · rw [Nat.min_eq_right h]
theorem ptl_len : ∀ f n m, n ≤ f → (ptl f n m).length = pt m n
  | 0, n, m, hn => by
    obtain rfl : n = 0 := by omega
    rw [ptl, if_pos rfl, pt_same m 0 (Nat.zero_le _), pt_null]; rfl
  | f + 1, n, m, hn => by
    by_cases h0 : n = 0
    · subst h0
      rw [ptl, if_pos rfl, pt_same m 0 (Nat.zero_le _), pt_null]; rfl
    · rw [ptl_succ h0]
      have := pacc_len f n (fun k h1 h2 => ptl_len f (n - k) k (by omega)) (min n m) (min n m) (Nat.le_refl _) (by omega)
      rw [Nat.sub_self, pt_null, if_neg h0, pt_min] at this
      omega
/-- The greater ones first. -/
theorem gtr_cons (k : Int) (a b : List Int) : PT.gtr (k :: a) (k :: b) = PT.gtr a b := by rw [gtr, if_pos rfl]
theorem ptl_ord : ∀ f n m, (ptl f n m).Pairwise fun a b => PT.gtr a b = true
  | 0, n, m => by rw [ptl]; split <;> simp
  | f + 1, n, m => by
    by_cases h0 : n = 0
    · rw [ptl, if_pos h0]; simp
    · rw [ptl_succ h0]
      have key : ∀ K j, j ≤ K → (pacc f n K j).Pairwise (fun a b => PT.gtr a b = true) ∧ ∀ a ∈ pacc f n K j, ∃ k r, a = ((k : Nat) : Int) :: r ∧ K - j < k := by
        intro K j
        induction j with
        | zero => intro _; exact ⟨by simp [pacc], fun a ha => by simp [pacc] at ha⟩
        | succ j ih =>
          intro hj
          obtain ⟨h1, h2⟩ := ih (by omega)
          rw [pacc_succ]
          refine ⟨?_, fun a ha => ?_⟩
          · rw [List.pairwise_append]
            refine ⟨h1, ?_, fun a ha b hb => ?_⟩
            · rw [List.pairwise_map]
              exact (ptl_ord f (n - (K - j)) (K - j)).imp (fun {a b} h => by rw [gtr_cons]; exact h)
            · obtain ⟨k, r, e, hk⟩ := h2 a ha
              obtain ⟨s, _, e2⟩ := List.mem_map.1 hb
              rw [e, ← e2, gtr, if_neg (by omega)]
              exact decide_eq_true (by omega)
          · rcases List.mem_append.1 ha with ha | ha
            · obtain ⟨k, r, e, hk⟩ := h2 a ha
              exact ⟨k, r, e, by omega⟩
            · obtain ⟨s, _, e2⟩ := List.mem_map.1 ha
              exact ⟨K - j, s, e2.symm, by omega⟩
      exact (key _ _ (Nat.le_refl _)).1

end PT
end Go.Proofs.YtmifenflbaohnaaDoor
end
