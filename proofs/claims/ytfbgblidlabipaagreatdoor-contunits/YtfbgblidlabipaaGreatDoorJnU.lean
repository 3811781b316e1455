import Derived.Test.YtfbgblidlabipaaGreatDoorJnI
import Derived.Test.YtfbgblidlabipaaGreatDoorJnS
import Derived.Test.YtfbgblidlabipaaGreatDoorJnG
import Derived.Test.YtfbgblidlabipaaGreatDoorJnJ
import Derived.Shelf.Spec.TrailingZeros
section
/- prime.rising yields all primes up to a prime B; it writes into one block of its own. -/
set_option linter.unusedSimpArgs false
set_option linter.unusedVariables false
set_option maxRecDepth 100000
namespace Go.Proofs.YtfbgblidlabipaaGreatDoor
open Go.RowKit
attribute [local go_sem] Oper.semAt_some

open Classical in
/-- The primes below m, rising. -/
noncomputable def befP (m : Nat) : List Int := ((List.range m).filter fun n => decide (Pr n)).map fun n : Nat => (n : Int)
open Classical in
theorem befP_succ (m : Nat) : befP (m + 1) = befP m ++ (if Pr m then [(m : Int)] else []) := by
  unfold befP
  rw [List.range_succ, List.filter_append, List.map_append]
  congr 1
  by_cases h : Pr m
  · simp [h]
  · simp [h]
theorem befP_yes {m : Nat} (h : Pr m) : befP (m + 1) = befP m ++ [(m : Int)] := by rw [befP_succ, if_pos h]
theorem befP_no {m : Nat} (h : ¬ Pr m) : befP (m + 1) = befP m := by rw [befP_succ, if_neg h, List.append_nil]
theorem befP_len (m : Nat) : (befP m).length ≤ m := by
  unfold befP
  rw [List.length_map]
  exact Nat.le_trans (List.length_filter_le _ _) (by simp)
theorem befP_mem (m : Nat) (x : Int) : x ∈ befP m ↔ ∃ q : Nat, x = q ∧ q < m ∧ Pr q := by
  classical
  simp only [befP, List.mem_map, List.mem_filter, List.mem_range, decide_eq_true_eq]
  constructor
  · rintro ⟨q, ⟨h1, h2⟩, rfl⟩; exact ⟨q, rfl, h1, h2⟩
  · rintro ⟨q, rfl, h1, h2⟩; exact ⟨q, ⟨h1, h2⟩, rfl⟩
theorem befP_el {m i : Nat} (h : i < (befP m).length) : ∃ q : Nat, (befP m).getD i 0 = q ∧ q < m ∧ Pr q := by
  refine (befP_mem m _).1 ?_
  rw [List.getD_eq_getElem?_getD, List.getElem?_eq_getElem h]
  exact List.getElem_mem _
theorem befP_inc (m : Nat) : (befP m).Pairwise (· < ·) := by
  unfold befP
  refine List.Pairwise.map _ ?_ (List.Pairwise.filter _ List.pairwise_lt_range)
  intro a b h
  omega
theorem befP_lt {m i j : Nat} (hij : i < j) (hj : j < (befP m).length) : (befP m).getD i 0 < (befP m).getD j 0 := by
  rw [List.getD_eq_getElem?_getD, List.getD_eq_getElem?_getD, List.getElem?_eq_getElem (by omega), List.getElem?_eq_getElem hj]
  exact List.pairwise_iff_getElem.1 (befP_inc m) i j (by omega) hj hij
theorem befP_pre {m n : Nat} (h : m ≤ n) : befP m <+: befP n := by
  classical
  induction n with
  | zero => obtain rfl : m = 0 := by omega
            exact List.prefix_refl _
  | succ n ih =>
    by_cases e : m = n + 1
    · subst e; exact List.prefix_refl _
    · refine (ih (by omega)).trans ?_
      rw [befP_succ]; exact List.prefix_append ..

theorem befP_two : befP 2 = [] := by
  have h : ∀ q, q < 2 → ¬ Pr q := fun q hq hp => by have := hp.1; omega
  rw [befP_no (h 1 (by omega)), befP_no (h 0 (by omega))]; rfl

/-- All ahead of place i leave something, and their squares are not above m. -/
def pasP (m i : Nat) : Prop := ∀ j, j < i → (befP m).getD j 0 * (befP m).getD j 0 ≤ m ∧ (m : Int) % (befP m).getD j 0 ≠ 0

theorem befP_yield {m i : Nat} (hm : 2 ≤ m) (hi : i ≤ (befP m).length) (hp : pasP m i) (h : i = (befP m).length ∨ (m : Int) < (befP m).getD i 0 * (befP m).getD i 0) : Pr m := by
  refine Classical.byContradiction fun hn => ?_
  obtain ⟨q, hq, c, hc⟩ := pr_divisor m hm
  -- the lesser of q and a prime of c
  have key : ∃ d, Pr d ∧ d ∣ m ∧ d * d ≤ m := by
    by_cases h1 : q ≤ c
    · exact ⟨q, hq, ⟨c, hc⟩, by rw [hc]; exact Nat.mul_le_mul_left q h1⟩
    · by_cases hc1 : c < 2
      · exfalso
        have hc0 : c ≠ 0 := by rintro rfl; simp at hc; omega
        obtain rfl : c = 1 := by omega
        rw [Nat.mul_one] at hc
        exact hn (hc ▸ hq)
      · obtain ⟨d, hd, e, he⟩ := pr_divisor c (by omega)
        have hdc : d ≤ c := Nat.le_of_dvd (by omega) ⟨e, he⟩
        refine ⟨d, hd, Nat.dvd_trans ⟨e, he⟩ ⟨q, by rw [Nat.mul_comm]; exact hc⟩, ?_⟩
        have h2 : d * d ≤ q * c := Nat.mul_le_mul (by omega) hdc
        omega
  obtain ⟨d, hd, hdm, hdd⟩ := key
  have hd2 := hd.1
  have hdlt : d < m := by
    have : d * 2 ≤ d * d := Nat.mul_le_mul_left d hd2
    omega
  obtain ⟨j, hj, hje⟩ := List.getElem_of_mem ((befP_mem m d).2 ⟨d, rfl, hdlt, hd⟩)
  have hjd : (befP m).getD j 0 = (d : Int) := by rw [List.getD_eq_getElem?_getD, List.getElem?_eq_getElem hj, hje]; rfl
  rcases Nat.lt_or_ge j i with h1 | h1
  · have := (hp j h1).2
    rw [hjd] at this
    exact this (by rw [← Int.natCast_emod, Nat.mod_eq_zero_of_dvd hdm]; rfl)
  · rcases h with h | h
    · omega
    · obtain ⟨r, hr, _, _⟩ := befP_el (show i < (befP m).length by omega)
      have hle : (befP m).getD i 0 ≤ (befP m).getD j 0 := by
        rcases Nat.lt_or_ge i j with h2 | h2
        · exact Int.le_of_lt (befP_lt h2 hj)
        · rw [show i = j by omega]; exact Int.le_refl _
      rw [hjd, hr] at hle
      rw [hr] at h
      have h3 : r * r ≤ d * d := Nat.mul_le_mul (by omega) (by omega)
      have h4 : (r : Int) * (r : Int) = ((r * r : Nat) : Int) := by simp
      rw [h4] at h
      omega
theorem befP_go {m i : Nat} (hi : i < (befP m).length) (h : (m : Int) % (befP m).getD i 0 = 0) : ¬ Pr m := by
  obtain ⟨q, hq, hqm, hqp⟩ := befP_el hi
  rw [hq] at h
  intro hp
  have hd : q ∣ m := Int.natCast_dvd_natCast.1 (Int.dvd_of_emod_eq_zero h)
  have := hqp.1
  rcases hp.2 q hd with e | e <;> omega

set_option maxHeartbeats 1000000 in
theorem rising_upto (B : Nat) (hBp : Pr B) (hB3 : B ≤ 3000) (F : Fence) (n : Nat) (hF : F.fn 204) (hro : F.round = none) (hn : 1 ≤ n) : YieldsO F n Tryz.prog 204 (befP (B + 1)) := by
  intro l J Jx W hJ hY hend h0
  obtain ⟨i0, hi, hz0, hz1, hz2⟩ := info_parts Tryz.infoInt
  have HI : Hid (Tryz.prog.info? 3 = some i0 ∧ i0.zero = some (.int .i64 0) ∧ i0.size = 1 ∧ i0.bytes = 8) := ⟨hi, hz0, hz1, hz2⟩
  have HY : Hid (∀ o pre x W1, J o pre W1 → (∀ g, o = some g → W.heap.size ≤ g ∧ g < W1.heap.size) → W.heap.size ≤ W1.heap.size → pre ++ [x] <+: (befP (B + 1)) → YieldAt F (n - 1) Tryz.prog l #[.int .i64 x] W1 fun e W' =>
      (e = .returned (.bool true) ∧ J o (pre ++ [x]) W' ∧ W1.heap.size ≤ W'.heap.size ∧ ∀ g, o = some g → W'.heap[g]? = W1.heap[g]?) ∨ (e = .returned (.bool false) ∧ Jx o (pre ++ [x]) W')) := hY
  have HJ : Hid (AbO J) := hJ
  have HEnd : Hid (∀ o W1, J o (befP (B + 1)) W1 → False) := hend
  have H0 : Hid (J none [] W) := h0
  clear hi hz0 hz1 hz2 hY hJ hend h0
  have hB2 := hBp.1
  have HBP : Hid (Pr B) := hBp
  clear hBp
  refine callsIn_of_wp Tryz.func204 rfl hF ?_ hro
  simp only [Tryz.ntmps204, List.size_toArray, List.length_cons, List.length_nil, Nat.reduceAdd, Nat.reduceSub, Array.replicate_succ, Array.replicate_zero, List.push_toArray, List.append_toArray, List.nil_append, List.cons_append]
  refine wpIn_scope_plain ?_
  gi_wp2
  refine wpIn_label ?_
  gi_wp2
  gi_loopw [2, 3] (fun bv nv wr => ∃ (a : Option Addr) (c k m : Nat), bv = .slice a k c ∧ nv = .int .i64 m ∧ 2 ≤ m ∧ m ≤ B ∧ k ≤ m ∧ Hid (k = (befP m).length ∧ J (Value.slice a k c).ownBlock (befP m) wr ∧ W.heap.size ≤ wr.heap.size ∧ wr.ownsRow W.heap.size 3 1 (.slice a k c) k (ints (befP m)))) (fun _ nv _ => B + 1 - (intOf nv).toNat)
  case atStart => exact ⟨none, 0, 0, 2, rfl, rfl, by omega, by omega, by omega, by rw [befP_two]; rfl, by rw [befP_two]; exact H0.out, Nat.le_refl _, by rw [befP_two]; exact World.ownsRow_nil _ _ _ _⟩
  case round =>
    obtain ⟨wo, hwo⟩ : ∃ wo, wo = wr := ⟨_, rfl⟩
    subst hwo
    obtain ⟨a, c, k, m, rfl, rfl, hm1, hm2, hk3, HR⟩ := hrel
    obtain ⟨hk, hJm, hzo, hrow⟩ := HR.out
    have HKE : Hid (k = (befP m).length) := hk
    have HJm : Hid (J (Value.slice a k c).ownBlock (befP m) wo) := hJm
    have HRow : Hid (wo.ownsRow W.heap.size 3 1 (.slice a k c) k (ints (befP m))) := hrow
    clear hk hJm hrow HR
    gi_wp2
    gi_loopw [10] (fun iv wx => ∃ i : Nat, i ≤ k ∧ iv = .int .i64 i ∧ Hid (wx = wo ∧ pasP m i)) (fun iv _ => k - (intOf iv).toNat)
    case atStart => exact ⟨0, Nat.zero_le _, rfl, rfl, fun j hj => absurd hj (Nat.not_lt_zero _)⟩
    case round =>
      obtain ⟨i, hi, rfl, HRi⟩ := hrel
      obtain ⟨hw, hpass⟩ := HRi.out
      subst hw
      have HPs : Hid (pasP m i) := hpass
      clear hpass HRi
      by_cases hik : i < k
      · obtain ⟨g, rfl⟩ : ∃ g, a = some ⟨g, 0, none⟩ := by
          rcases HRow.out.2 with ⟨_, h⟩ | ⟨g, _, _, h, _⟩
          · omega
          · simp only [Value.slice.injEq] at h; exact ⟨g, h.1⟩
        obtain ⟨p, hp⟩ : ∃ p, p = (befP m).getD i 0 := ⟨_, rfl⟩
        have hcell : wr.cell? ⟨g, i, none⟩ = some (.int .i64 p) := by
          rw [HRow.out.cellAt i (by omega), hp, ints, List.getElem?_map, List.getD_eq_getElem?_getD, List.getElem?_eq_getElem (by have := HKE.out; omega)]
          rfl
        obtain ⟨hp1, hp2⟩ : 2 ≤ p ∧ p ≤ 3000 := by
          obtain ⟨q, hq, hq1, hq2⟩ := befP_el (m := m) (i := i) (by have := HKE.out; omega)
          have := hq2.1
          rw [hp, hq]; omega
        have HP : Hid (p = (befP m).getD i 0) := hp
        clear hp
        have hpp : 0 ≤ p * p ∧ p * p ≤ 9000000 := by
          have h1 := Int.mul_le_mul hp2 hp2 (by omega) (by omega)
          have h2 := Int.mul_nonneg (show 0 ≤ p by omega) (show 0 ≤ p by omega)
          omega
        have hp0 : (p == 0) = false := beq_eq_false_iff_ne.2 (by omega)
        by_cases hsq : (m : Int) < p * p
        · have hsqb : decide ((m : Int) < p * p) = true := decide_eq_true hsq
          have hPm : Pr m := befP_yield hm1 (by have := HKE.out; omega) HPs.out (.inr (by rw [← HP.out]; exact hsq))
          have hnext := befP_yes hPm
          have hpre : befP m ++ [(m : Int)] <+: befP (B + 1) := by rw [← hnext]; exact befP_pre (by omega)
          have HNx : Hid (befP (m + 1) = befP m ++ [(m : Int)]) := hnext
          clear hPm
          obtain ⟨fn, tmps, assign, body, hy, hR⟩ := HY.out _ (befP m) m wr HJm.out (fun g' e => HRow.out.lt g' e) (by omega) hpre
          clear hpre hnext
          gi_wp2
          refine hR.mono ?_
          rintro e W' (⟨rfl, hJ', zk, hk'⟩ | ⟨rfl, hJx'⟩)
          · have row' := row_kept HRow.out hk'
            have ROW : Hid (W'.ownsRow W.heap.size 3 1 (.slice (some ⟨g, 0, none⟩) k c) k (ints (befP m))) := row'
            have JJ : Hid (J (Value.slice (some ⟨g, 0, none⟩) k c).ownBlock (befP m ++ [(m : Int)]) W') := hJ'
            have hm7 : m ≠ B := by
              intro e
              have h := hJ'
              rw [← HNx.out, e] at h
              exact HEnd.out _ W' h
            have hnx : befP (m + 1) = befP m ++ [(m : Int)] := HNx.out
            have HNX : Hid (befP (m + 1) = befP m ++ [(m : Int)]) := hnx
            clear row' hJ' hk' hnx HNx hR hy
            gi_wp2_with (gi_at_builtin; refine wpListIn_append_own_at _ rfl _ _ 80 rfl W.heap.size 3 i0 (.int .i64 0) 1 8 Tryz.underlying80 HI.out.1 HI.out.2.1 HI.out.2.2.1 HI.out.2.2.2 rfl (by decide) (.slice (some ⟨g, 0, none⟩) k c) k (ints (befP m)) rfl (ROW.out.alloc _) ⟨W'.heap.size, 0, none⟩ 1 1 [.int .i64 m] rfl rfl (cell_one_new _ _ _) (by simp [Value.oneCell']) (by simp only [maxLen]; omega) (by omega) (by simp; omega) ?_; intro v' w1 hown' hgrow _ hob; obtain ⟨g', cap', rfl⟩ := ownsRow_succ hown')
            have hJ1 : J (Value.slice (some ⟨g', 0, none⟩) (k + 1) cap').ownBlock (befP m ++ [(m : Int)]) w1 := HJ.out _ _ _ _ _ (HJ.out.alloc _ JJ.out) hgrow (by
              rcases hob with h | h
              · exact .inl h
              · exact .inr ⟨_, h, Nat.le_refl _⟩)
            have zg := hgrow.size
            simp at zg
            have hrow1 : w1.ownsRow W.heap.size 3 1 (.slice (some ⟨g', 0, none⟩) (k + 1) cap') (k + 1) (ints (befP (m + 1))) := by
              rw [HNX.out, ints, List.map_append]; exact hown'
            have HJ1 : Hid (J (Value.slice (some ⟨g', 0, none⟩) (k + 1) cap').ownBlock (befP (m + 1)) w1) := by rw [HNX.out]; exact hJ1
            have HR1 : Hid (w1.ownsRow W.heap.size 3 1 (.slice (some ⟨g', 0, none⟩) (k + 1) cap') (k + 1) (ints (befP (m + 1)))) := hrow1
            have hk1 : k + 1 ≤ m + 1 := by omega
            clear hJ1 hrow1 hown' hgrow hob
            gi_wp2
            go_roundw
            case rel =>
              refine ⟨some ⟨g', 0, none⟩, cap', k + 1, m + 1, rfl, by go_num, by omega, by omega, hk1, ?_, HJ1.out, by omega, HR1.out⟩
              rw [HNX.out, List.length_append, ← HKE.out]; rfl
            case measure => simp [intOf]; omega
          · gi_wp2
            rw [Exit.noGoto_ret]
            exact bodyPost_ret (results_none rfl _ _ _) rfl ⟨⟨_, rfl⟩, _, _, hJx'⟩
        · have hsqb : decide ((m : Int) < p * p) = false := decide_eq_false hsq
          by_cases hmod : (m : Int) % p = 0
          · have hnPm : ¬ Pr m := befP_go (m := m) (i := i) (by have := HKE.out; omega) (by rw [← HP.out]; exact hmod)
            have hnx : befP (m + 1) = befP m := befP_no hnPm
            have hm7 : m < B := by
              rcases Nat.lt_or_ge m B with h | h
              · exact h
              · exact absurd ((show m = B by omega) ▸ HBP.out) hnPm
            clear hnPm
            have hmb : (((m : Int) % p) == 0) = true := by rw [hmod]; rfl
            have HNX : Hid (befP (m + 1) = befP m) := hnx
            clear hnx hmod hsq
            gi_wp2
            go_roundw
            case rel =>
              refine ⟨some ⟨g, 0, none⟩, c, k, m + 1, rfl, by go_num, by omega, by omega, by omega, ?_, ?_, by omega, ?_⟩
              · rw [HNX.out]; exact HKE.out
              · rw [HNX.out]; exact HJm.out
              · rw [HNX.out]; exact HRow.out
            case measure => simp [intOf]; omega
          · have hmb : (((m : Int) % p) == 0) = false := beq_eq_false_iff_ne.2 hmod
            have HN : Hid (pasP m (i + 1)) := by
              intro j hj
              by_cases hji : j = i
              · subst hji; rw [← HP.out]; exact ⟨by omega, hmod⟩
              · exact HPs.out j (by omega)
            clear hmod hsq
            gi_wp2
            go_roundw
            case rel => exact ⟨i + 1, by omega, by go_num, by first | rfl | trivial, HN.out⟩
            case measure => simp [intOf]; omega
      · obtain rfl : i = k := by omega
        have hPm : Pr m := befP_yield hm1 (by have := HKE.out; omega) HPs.out (.inl HKE.out)
        have hnext := befP_yes hPm
        have hpre : befP m ++ [(m : Int)] <+: befP (B + 1) := by rw [← hnext]; exact befP_pre (by omega)
        have HNx : Hid (befP (m + 1) = befP m ++ [(m : Int)]) := hnext
        clear hPm
        obtain ⟨fn, tmps, assign, body, hy, hR⟩ := HY.out _ (befP m) m wr HJm.out (fun g' e => HRow.out.lt g' e) (by omega) hpre
        clear hpre hnext
        gi_wp2
        refine hR.mono ?_
        rintro e W' (⟨rfl, hJ', zk, hk'⟩ | ⟨rfl, hJx'⟩)
        · have row' := row_kept HRow.out hk'
          have ROW : Hid (W'.ownsRow W.heap.size 3 1 (.slice a i c) i (ints (befP m))) := row'
          have JJ : Hid (J (Value.slice a i c).ownBlock (befP m ++ [(m : Int)]) W') := hJ'
          have hm7 : m ≠ B := by
            intro e
            have h := hJ'
            rw [← HNx.out, e] at h
            exact HEnd.out _ W' h
          have hnx : befP (m + 1) = befP m ++ [(m : Int)] := HNx.out
          have HNX : Hid (befP (m + 1) = befP m ++ [(m : Int)]) := hnx
          clear row' hJ' hk' hnx HNx hR hy
          gi_wp2_with (gi_at_builtin; refine wpListIn_append_own_at _ rfl _ _ 80 rfl W.heap.size 3 i0 (.int .i64 0) 1 8 Tryz.underlying80 HI.out.1 HI.out.2.1 HI.out.2.2.1 HI.out.2.2.2 rfl (by decide) (.slice a i c) i (ints (befP m)) rfl (ROW.out.alloc _) ⟨W'.heap.size, 0, none⟩ 1 1 [.int .i64 m] rfl rfl (cell_one_new _ _ _) (by simp [Value.oneCell']) (by simp only [maxLen]; omega) (by omega) (by simp; omega) ?_; intro v' w1 hown' hgrow _ hob; obtain ⟨g', cap', rfl⟩ := ownsRow_succ hown')
          have hJ1 : J (Value.slice (some ⟨g', 0, none⟩) (i + 1) cap').ownBlock (befP m ++ [(m : Int)]) w1 := HJ.out _ _ _ _ _ (HJ.out.alloc _ JJ.out) hgrow (by
            rcases hob with h | h
            · exact .inl h
            · exact .inr ⟨_, h, Nat.le_refl _⟩)
          have zg := hgrow.size
          simp at zg
          have hrow1 : w1.ownsRow W.heap.size 3 1 (.slice (some ⟨g', 0, none⟩) (i + 1) cap') (i + 1) (ints (befP (m + 1))) := by
            rw [HNX.out, ints, List.map_append]; exact hown'
          have HJ1 : Hid (J (Value.slice (some ⟨g', 0, none⟩) (i + 1) cap').ownBlock (befP (m + 1)) w1) := by rw [HNX.out]; exact hJ1
          have HR1 : Hid (w1.ownsRow W.heap.size 3 1 (.slice (some ⟨g', 0, none⟩) (i + 1) cap') (i + 1) (ints (befP (m + 1)))) := hrow1
          have hk1 : i + 1 ≤ m + 1 := by omega
          clear hJ1 hrow1 hown' hgrow hob
          gi_wp2
          go_roundw
          case rel =>
            refine ⟨some ⟨g', 0, none⟩, cap', i + 1, m + 1, rfl, by go_num, by omega, by omega, hk1, ?_, HJ1.out, by omega, HR1.out⟩
            rw [HNX.out, List.length_append, ← HKE.out]; rfl
          case measure => simp [intOf]; omega
        · gi_wp2
          rw [Exit.noGoto_ret]
          exact bodyPost_ret (results_none rfl _ _ _) rfl ⟨⟨_, rfl⟩, _, _, hJx'⟩

end Go.Proofs.YtfbgblidlabipaaGreatDoor
end

section
/- Plain facts: Jacobi's symbol as it is reckoned by taking out 2 and turning round, and what follows of it. -/
set_option linter.unusedVariables false
set_option maxRecDepth 100000
namespace Go.Proofs.YtfbgblidlabipaaGreatDoor

/-- The symbol of 2. -/
def twoS (n : Nat) : Int := if n % 8 = 3 ∨ n % 8 = 5 then -1 else 1
/-- The sign of turning round. -/
def sgnS (a n : Nat) : Int := if a % 4 = 3 ∧ n % 4 = 3 then -1 else 1

def jac (a n : Nat) : Int :=
  if h0 : a = 0 then (if n = 1 then 1 else 0)
  else if a % 2 = 0 then twoS n * jac (a / 2) n
  else sgnS a n * jac (n % a) a
termination_by a
decreasing_by
  · omega
  · exact Nat.mod_lt _ (by omega)

theorem jac_zero (n : Nat) : jac 0 n = if n = 1 then 1 else 0 := by rw [jac]; simp
theorem jac_even (a n : Nat) (h0 : a ≠ 0) (h : a % 2 = 0) : jac a n = twoS n * jac (a / 2) n := by rw [jac]; simp [h0, h]
theorem jac_odd (a n : Nat) (h : a % 2 = 1) : jac a n = sgnS a n * jac (n % a) a := by
  rw [jac, dif_neg (by omega), if_neg (by omega)]

theorem twoS_sq (n : Nat) : twoS n = 1 ∨ twoS n = -1 := by unfold twoS; split <;> simp
theorem sgnS_sq (a n : Nat) : sgnS a n = 1 ∨ sgnS a n = -1 := by unfold sgnS; split <;> simp

/-- It is 1 or -1 of numbers without a common divisor, else 0. -/
theorem jac_unit (a : Nat) : ∀ n, n % 2 = 1 → (Nat.gcd a n = 1 → jac a n = 1 ∨ jac a n = -1) ∧ (Nat.gcd a n ≠ 1 → jac a n = 0) := by
  induction a using Nat.strongRecOn with
  | ind a ih =>
    intro n hn
    by_cases h0 : a = 0
    · subst h0
      rw [jac_zero, Nat.gcd_zero_left]
      constructor
      · intro h; rw [if_pos h]; exact .inl rfl
      · intro h; rw [if_neg h]
    · by_cases h2 : a % 2 = 0
      · obtain ⟨h3, h4⟩ := ih (a / 2) (by omega) n hn
        have hc : Nat.gcd 2 n = 1 := by
          rw [Nat.gcd_rec, show n % 2 = 1 from hn]; rfl
        have hg : Nat.gcd a n = Nat.gcd (a / 2) n := by
          have e : a = 2 * (a / 2) := by omega
          conv => lhs; rw [e]
          exact Nat.Coprime.gcd_mul_left_cancel (a / 2) hc
        rw [jac_even a n h0 h2, hg]
        constructor
        · intro h
          rcases twoS_sq n with e | e <;> rcases h3 h with f | f <;> rw [e, f] <;> simp
        · intro h; rw [h4 h]; simp
      · have hodd : a % 2 = 1 := by omega
        obtain ⟨h3, h4⟩ := ih (n % a) (Nat.mod_lt _ (by omega)) a hodd
        have hg : Nat.gcd a n = Nat.gcd (n % a) a := Nat.gcd_rec a n
        rw [jac_odd a n hodd, hg]
        constructor
        · intro h
          rcases sgnS_sq a n with e | e <;> rcases h3 h with f | f <;> rw [e, f] <;> simp
        · intro h; rw [h4 h]; simp

theorem jac_one (n : Nat) : jac 1 n = 1 := by
  rw [jac_odd 1 n rfl, Nat.mod_one, jac_zero]
  simp [sgnS]
theorem jac_one_mod (n : Nat) (h : 1 ≤ n) : jac (1 % n) n = 1 := by
  by_cases h1 : n = 1
  · subst h1; rw [Nat.mod_one, jac_zero]; rfl
  · rw [Nat.mod_eq_of_lt (by omega), jac_one]

theorem jac_two (n : Nat) (h : n % 2 = 1) : jac (2 % n) n = twoS n := by
  by_cases h1 : n = 1
  · subst h1; rw [Nat.mod_one, jac_zero]; rfl
  · rw [Nat.mod_eq_of_lt (by omega), jac_even 2 n (by omega) rfl, show 2 / 2 = 1 from rfl, jac_one]; omega

/-- GAUSS: turning round. -/
theorem jac_turn (m n : Nat) (hm : m % 2 = 1) (hn : n % 2 = 1) : jac (m % n) n = sgnS m n * jac (n % m) m := by
  have key : ∀ m n : Nat, m % 2 = 1 → n % 2 = 1 → m < n → jac (m % n) n = sgnS m n * jac (n % m) m := fun m n h1 h2 h => by
    rw [Nat.mod_eq_of_lt h, jac_odd m n h1]
  rcases Nat.lt_trichotomy m n with h | h | h
  · exact key m n hm hn h
  · subst h
    by_cases h1 : m = 1
    · subst h1; simp [jac_zero, sgnS]
    · rw [Nat.mod_self, jac_zero, if_neg h1]; simp
  · have := key n m hn hm h
    have hs : sgnS n m = sgnS m n := by unfold sgnS; simp [and_comm]
    rw [hs] at this
    rw [this]
    rcases sgnS_sq m n with e | e <;> rw [e] <;> omega

/-- 2 is taken out so often. -/
theorem jac_out (s : Nat) : ∀ m n, 0 < m → jac (2 ^ s * m) n = twoS n ^ s * jac m n := by
  induction s with
  | zero => intro m n h; simp
  | succ s ih =>
    intro m n h
    have hp : 0 < 2 ^ s := Nat.pow_pos (by omega)
    have e : 2 ^ (s + 1) * m = 2 * (2 ^ s * m) := by rw [Nat.pow_succ]; simp [Nat.mul_comm, Nat.mul_left_comm]
    have hpos : 0 < 2 ^ s * m := Nat.mul_pos hp h
    rw [e, jac_even _ n (by omega) (by omega), show 2 * (2 ^ s * m) / 2 = 2 ^ s * m by omega, ih m n h, Int.pow_succ, Int.mul_comm (twoS n ^ s) (twoS n), Int.mul_assoc]

theorem two_part (k : Nat) (h : 0 < k) : ∃ s m, k = 2 ^ s * m ∧ m % 2 = 1 := by
  induction k using Nat.strongRecOn with
  | ind k ih =>
    by_cases h2 : k % 2 = 1
    · exact ⟨0, k, by simp, h2⟩
    · obtain ⟨s, m, e, hm⟩ := ih (k / 2) (by omega) (by omega)
      exact ⟨s + 1, m, by rw [Nat.pow_succ, Nat.mul_right_comm, ← e]; omega, hm⟩

theorem jac_less (n : Nat) (h : n % 2 = 1) : jac (n - 1) n = if n % 4 = 1 then 1 else -1 := by
  by_cases h1 : n = 1
  · subst h1; rw [show 1 - 1 = 0 from rfl, jac_zero]; rfl
  · obtain ⟨s, m, e, hm⟩ := two_part (n - 1) (by omega)
    have hm0 : 0 < m := by omega
    have hmod : n % m = 1 % m := by
      have : n = 1 + m * 2 ^ s := by rw [Nat.mul_comm, ← e]; omega
      rw [this, Nat.add_mul_mod_self_left]
    rw [e, jac_out s m n hm0, jac_odd m n hm, hmod, jac_one_mod m (by omega), Int.mul_one]
    match s, e with
    | 0, e => simp at e; omega
    | 1, e =>
      rw [Int.pow_succ, Int.pow_zero, Int.one_mul]
      have e2 : n = 2 * m + 1 := by simp at e; omega
      unfold twoS sgnS
      rcases (show m % 4 = 1 ∨ m % 4 = 3 by omega) with h4 | h4
      · rw [if_pos (by omega), if_neg (by omega), if_neg (by omega)]; rfl
      · rw [if_neg (by omega), if_pos (by omega), if_neg (by omega)]; rfl
    | 2, e =>
      have e2 : n = 4 * m + 1 := by simp at e; omega
      have hs : sgnS m n = 1 := by unfold sgnS; rw [if_neg (by omega)]
      rw [hs, if_pos (by omega)]
      rcases twoS_sq n with h3 | h3 <;> rw [h3] <;> rfl
    | s + 3, e =>
      have e2 : n = 8 * (2 ^ s * m) + 1 := by
        have e3 : 2 ^ (s + 3) * m = 8 * (2 ^ s * m) := by rw [Nat.pow_add, Nat.mul_comm (2 ^ s), Nat.mul_assoc]
        omega
      have hs : sgnS m n = 1 := by unfold sgnS; rw [if_neg (by omega)]
      have ht : twoS n = 1 := by unfold twoS; rw [if_neg (by omega)]
      rw [hs, ht, if_pos (by omega), Int.one_pow]; rfl

end Go.Proofs.YtfbgblidlabipaaGreatDoor
end

section
/- math/bits.TrailingZeros64, residue.symbol and residue.Jacobi. -/
set_option linter.unusedSimpArgs false
set_option linter.unusedVariables false
set_option maxRecDepth 100000
namespace Go.Proofs.YtfbgblidlabipaaGreatDoor
open Go.RowKit

/-- The table of package math/bits is in memory. -/
def Tb (w : World) : Prop := TabAt 0 Lib.deBruijn64tab w
theorem Tb.lt {w : World} (h : Tb w) : 0 < w.heap.size := by
  rcases Nat.lt_or_ge 0 w.heap.size with k | k
  · exact k
  · have h1 := h 0 (by decide)
    simp only [World.cell?, Array.getElem?_eq_none k] at h1; cases h1
theorem Tb.below {w w' : World} (h : Tb w) (k : Below w.heap.size w w') : Tb w' := fun j hj => (k.cell (p := ⟨0, j, none⟩) h.lt).trans (h j hj)
theorem Tb.alloc {w : World} (h : Tb w) (o : Obj) : Tb (w.alloc o) := h.below (Below.alloc (Below.refl _ _) (Nat.le_refl _) _)
theorem Tb.upto {B : Nat} {w w' : World} (h : Tb w) (k : Below B w w') (hB : w.heap.size ≤ B) : Tb w' := h.below (k.mono hB)

set_option maxHeartbeats 1000000 in
theorem tz_core (x k idx : Nat) (w : World) (hx0 : ((x : Int) == 0) = false)
    (key : IntKind.u64.wrap (bits BinOp.and IntKind.u64 (x : Int) (IntKind.u64.wrap (-(x : Int))) * 285870213051353865) / 288230376151711744 = (idx : Int))
    (hi : idx < 64) (hk : k < 64) (hcell : w.cell? ⟨0, idx, none⟩ = some (.int .u8 k)) :
    Calls Tryz.prog 195 #[.int .u64 x] w fun e w' => e = .returned (.int .i64 k) ∧ w' = w := by
  go_enter Tryz.func195, Tryz.ntmps195
  go_wp2_with (simp only [key])
  go_ret
  exact ⟨rfl, rfl⟩

/-- x is 2 so often, times an odd number. -/
theorem tz_any (x : Nat) (hx : x < 18446744073709551616) (h0 : x ≠ 0) :
    ∃ t b : Nat, x = 2 ^ t * b ∧ b % 2 = 1 ∧ t < 64 ∧ ∀ w, Tb w → Calls Tryz.prog 195 #[.int .u64 x] w fun e w' => e = .returned (.int .i64 t) ∧ w' = w := by
  obtain ⟨hlow, hk⟩ := Lib.lowest_bit 64 x h0 hx
  obtain ⟨m, hm, hk2⟩ := Lib.ctzFrom_spec 64 x (by omega) hx
  have e : Lib.ctz 64 x = Lib.ctzFrom 64 x := by simp [Lib.ctz, h0]
  refine ⟨Lib.ctz 64 x, 2 * m + 1, by rw [e]; exact hm, by omega, hk, fun w hT => ?_⟩
  obtain ⟨hi, htab⟩ := Lib.deBruijn64_at _ hk
  have hcell := hT _ hi
  rw [htab] at hcell
  exact tz_core x _ _ w (by simp; omega) (tz64_key x _ hx h0 hlow) hi hk hcell

/-- One round: out with all 2, and turned round. -/
theorem jac_round {a n t b : Nat} {z J : Int} (h : a = 2 ^ t * b) (hb : b % 2 = 1) (hz : z * jac a n = J) :
    (if b % 4 = 3 ∧ n % 4 = 3 then -(if t % 2 = 1 ∧ (n % 8 = 3 ∨ n % 8 = 5) then -z else z) else (if t % 2 = 1 ∧ (n % 8 = 3 ∨ n % 8 = 5) then -z else z)) * jac (n % b) b = J := by
  rw [h, jac_out t b n (by omega), jac_odd b n hb] at hz
  rw [← hz]
  have e1 : twoS n ^ t = if t % 2 = 1 ∧ (n % 8 = 3 ∨ n % 8 = 5) then -1 else 1 := by
    unfold twoS
    by_cases h8 : n % 8 = 3 ∨ n % 8 = 5
    · rw [if_pos h8]
      rcases Nat.mod_two_eq_zero_or_one t with h2 | h2
      · rw [if_neg (by omega)]
        obtain ⟨k, rfl⟩ : ∃ k, t = 2 * k := ⟨t / 2, by omega⟩
        rw [Int.pow_mul]; simp [Int.one_pow]
      · rw [if_pos ⟨h2, h8⟩]
        obtain ⟨k, rfl⟩ : ∃ k, t = 2 * k + 1 := ⟨t / 2, by omega⟩
        rw [Int.pow_succ, Int.pow_mul]; simp [Int.one_pow]
    · rw [if_neg h8, if_neg (by omega), Int.one_pow]
  rw [e1]
  unfold sgnS
  split <;> split <;> grind

set_option maxHeartbeats 4000000 in
theorem symbol_any (a0 : Int) (n0 : Nat) (w : World) (ha : a0.natAbs ≤ 4000000000000000000) (hn : n0 % 2 = 1) (hn2 : n0 ≤ 1000000000000000000) (hT : Tb w) :
    Calls Tryz.prog 314 #[.int .i64 a0, .int .i64 n0] w fun e w' => e = .returned (.int .i64 (jac (a0 % n0).toNat n0)) ∧ w' = w := by
  obtain ⟨J, hJ⟩ : ∃ J, J = jac (a0 % n0).toNat n0 := ⟨_, rfl⟩
  rw [← hJ]
  have hn1 : 1 ≤ n0 := by omega
  have hmod : 0 ≤ a0 % (n0 : Int) ∧ a0 % (n0 : Int) < n0 := ⟨Int.emod_nonneg _ (by omega), Int.emod_lt_of_pos _ (by omega)⟩
  obtain ⟨r, hr⟩ : ∃ r : Nat, r = (a0 % (n0 : Int)).toNat := ⟨_, rfl⟩
  have HR : Hid (a0 % n0 = (r : Int)) := by show _ = _; omega
  have hrn : r < n0 := by omega
  rw [← hr] at hJ
  have HJ : Hid (J = jac r n0) := hJ
  have HN : Hid (n0 % 2 = 1) := hn
  have HT : Hid (Tb w) := hT
  clear hmod hr hJ hn hT
  go_enter Tryz.func314, Tryz.ntmps314
  go_wp2_with fail
  refine (left_any a0 n0 w ha (by omega) (by omega)).mono ?_
  rintro e w1 ⟨rfl, rfl⟩
  rw [HR.out]
  clear HR ha
  go_wp2
  go_loopw [0, 1, 5] (fun av nv sv wx => ∃ (a n : Nat) (s : Int), av = .int .i64 a ∧ nv = .int .i64 n ∧ sv = .int .i64 s ∧ a ≤ 1000000000000000000 ∧ 1 ≤ n ∧ n ≤ 1000000000000000000 ∧ -1 ≤ s ∧ s ≤ 1 ∧ Hid (n % 2 = 1 ∧ (s = 1 ∨ s = -1) ∧ s * jac a n = J ∧ wx = w1)) (fun av _ _ _ => (intOf av).toNat)
  case atStart => exact ⟨r, n0, 1, rfl, rfl, rfl, by omega, hn1, hn2, by omega, by omega, HN.out, .inl rfl, by rw [HJ.out]; omega, rfl⟩
  case round =>
    obtain ⟨a, n, s, rfl, rfl, rfl, ha, hn3, hn4, hs1, hs2, HE⟩ := hrel
    obtain ⟨e1, e2, e3, e4⟩ := HE.out
    subst e4
    have HNo : Hid (n % 2 = 1) := e1
    have HS : Hid (s = 1 ∨ s = -1) := e2
    have HV : Hid (s * jac a n = J) := e3
    clear e1 e2 e3 HE HJ HN
    by_cases ha0 : a = 0
    · have hane : ((a : Int) != 0) = false := by simp; omega
      have hj0 := jac_zero n
      rw [← ha0] at hj0
      by_cases h1 : n = 1
      · have hgt : decide ((1 : Int) < (n : Int)) = false := decide_eq_false (by omega)
        have hJs : J = s := by rw [← HV.out, hj0, if_pos h1]; omega
        have HJs : Hid (J = s) := hJs
        clear h1 hj0 hJs ha0
        go_wp2
        go_ret
        exact ⟨by rw [HJs.out]; rfl, rfl⟩
      · have hgt : decide ((1 : Int) < (n : Int)) = true := decide_eq_true (by omega)
        have hJs : J = 0 := by rw [← HV.out, hj0, if_neg h1]; omega
        have HJs : Hid (J = 0) := hJs
        clear h1 hj0 hJs ha0
        go_wp2
        go_ret
        exact ⟨by rw [HJs.out]; rfl, rfl⟩
    · have hane : ((a : Int) != 0) = true := by simp; omega
      obtain ⟨t, b, hab, hb2, ht, hc⟩ := tz_any a (by omega) ha0
      have HC : Hid (∀ w, Tb w → Calls Tryz.prog 195 #[.int .u64 a] w fun e w' => e = .returned (.int .i64 t) ∧ w' = w) := hc
      have HST := jac_round hab hb2 HV.out
      have hb1 : 1 ≤ b := by omega
      have hbl : b ≤ a := by rw [hab]; exact Nat.le_mul_of_pos_left _ (Nat.pow_pos (by omega))
      have hsh : a / 2 ^ t = b := by rw [hab]; exact Nat.mul_div_cancel_left _ (Nat.pow_pos (by omega))
      have HSH : Hid (a / 2 ^ t = b) := hsh
      have HB2 : Hid (b % 2 = 1) := hb2
      clear hab hb2 hc hsh ha0
      have hdv : (a : Int) / 2 ^ t = (b : Int) := by have := HSH.out; rw [← this]; simp
      have HD : Hid ((n : Int).tmod (b : Int) = ((n % b : Nat) : Int) ∧ (n : Int) % (b : Int) = ((n % b : Nat) : Int)) := ⟨by rw [Int.tmod_eq_emod_of_nonneg (by omega), Int.natCast_emod], by rw [Int.natCast_emod]⟩
      have hb0 : ((b : Int) == 0) = false := beq_eq_false_iff_ne.2 (by omega)
      have hml : n % b < b := Nat.mod_lt _ (by omega)
      obtain ⟨c, hcc⟩ : ∃ c, c = n % b := ⟨_, rfl⟩
      rw [← hcc] at HST HD hml
      obtain ⟨hmd, hmd2⟩ := HD.out
      clear hcc HD
      have h8 : n % 8 = 1 ∨ n % 8 = 3 ∨ n % 8 = 5 ∨ n % 8 = 7 := by have := HNo.out; omega
      have h4 : b % 4 = 1 ∨ b % 4 = 3 := by have := HB2.out; omega
      have h2 : t % 2 = 0 ∨ t % 2 = 1 := by omega
      rcases h8 with h8 | h8 | h8 | h8 <;> rcases h4 with h4 | h4 <;> rcases h2 with h2 | h2
      all_goals
        have h84 : n % 4 = (n % 8) % 4 := by omega
        rw [h84, h8, h4, h2] at HST
        first | have d1 : (((n : Int) % 8) == 3) = true := beq_iff_eq.2 (by omega) | have d1 : (((n : Int) % 8) == 3) = false := beq_eq_false_iff_ne.2 (by omega)
        first | have d2 : (((n : Int) % 8) == 5) = true := beq_iff_eq.2 (by omega) | have d2 : (((n : Int) % 8) == 5) = false := beq_eq_false_iff_ne.2 (by omega)
        first | have d3 : (((b : Int) % 4) == 3) = true := beq_iff_eq.2 (by omega) | have d3 : (((b : Int) % 4) == 3) = false := beq_eq_false_iff_ne.2 (by omega)
        first | have d4 : (((t : Int) % 2) == 1) = true := beq_iff_eq.2 (by omega) | have d4 : (((t : Int) % 2) == 1) = false := beq_eq_false_iff_ne.2 (by omega)
        first | have d5 : (((n : Int) % 4) == 3) = true := beq_iff_eq.2 (by omega) | have d5 : (((n : Int) % 4) == 3) = false := beq_eq_false_iff_ne.2 (by omega)
        simp at HST
        have HV2 : Hid (_ = J) := HST
        clear HST h8 h4 h2 h84
        go_wp2_with fail
        refine (HC.out _ HT.out).mono ?_
        rintro e w' ⟨rfl, rfl⟩
        go_wp2
        go_roundw
        case rel => exact ⟨c, b, _, by first | rfl | (rw [hmd]), rfl, rfl, by omega, by omega, by omega, by omega, by omega, HB2.out, by have := HS.out; omega, by have := HV2.out; first | exact this | (rw [Int.neg_neg]; exact this), by first | rfl | trivial⟩
        case measure => simp [intOf] <;> omega

end Go.Proofs.YtfbgblidlabipaaGreatDoor
end

section
/- Plain facts: Fermat's theorem of every prime; powers and polynomials a little beside; Hensel's step. -/
set_option linter.unusedVariables false
set_option maxRecDepth 100000
namespace Go.Proofs.YtfbgblidlabipaaGreatDoor

/-! ### Products over a rearrangement; Fermat's theorem -/

def pd (g : Nat → Nat) : Nat → Nat
  | 0 => 1
  | n + 1 => pd g n * g n

theorem pd_cong {g h : Nat → Nat} : ∀ N, (∀ i, i < N → g i = h i) → pd g N = pd h N := by
  intro N
  induction N with
  | zero => intro _; rfl
  | succ N ih => intro e; rw [pd, pd, ih (fun i hi => e i (by omega)), e N (by omega)]

theorem pd_upd (g : Nat → Nat) (k v : Nat) : ∀ N, k < N → pd g N * v = pd (fun i => if i = k then v else g i) N * g k := by
  intro N
  induction N with
  | zero => intro h; omega
  | succ N ih =>
    intro h
    rw [pd, pd]
    by_cases hk : k = N
    · subst hk
      rw [if_pos rfl, pd_cong (h := fun i => if i = k then v else g i) k (fun i hi => by rw [if_neg (by omega)])]
      rw [Nat.mul_assoc, Nat.mul_assoc, Nat.mul_comm (g k) v]
    · rw [if_neg (by omega), Nat.mul_right_comm, ih (by omega), Nat.mul_right_comm]

theorem pd_perm : ∀ (N : Nat) (f : Nat → Nat), (∀ i, i < N → f i < N) → (∀ i j, i < j → j < N → f i ≠ f j) → ∀ g : Nat → Nat, pd (fun i => g (f i)) N = pd g N := by
  intro N
  induction N with
  | zero => intro f _ _ g; rfl
  | succ N ih =>
    intro f hf hi g
    obtain ⟨k, hk, hkN⟩ := pigeon (N + 1) f hf hi N (by omega)
    by_cases hkn : k = N
    · subst hkn
      have h1 : ∀ i, i < k → f i < k := fun i h => by
        have := hf i (by omega)
        have := hi i k h (by omega)
        omega
      rw [pd, pd, ih f h1 (fun i j h h' => hi i j h (by omega)) g, hkN]
    · have h1 : ∀ i, i < N → (if i = k then f N else f i) < N := by
        intro i h
        split
        · have := hf N (by omega)
          have := hi k N (by omega) (by omega)
          omega
        · have := hf i (by omega)
          rcases Nat.lt_trichotomy i k with h3 | h3 | h3
          · have := hi i k h3 hk; omega
          · contradiction
          · have := hi k i h3 (by omega); omega
      have h2 : ∀ i j, i < j → j < N → (if i = k then f N else f i) ≠ (if j = k then f N else f j) := by
        intro i j hij hj
        split <;> split
        · omega
        · exact fun h => hi j N (by omega) (by omega) h.symm
        · exact hi i N (by omega) (by omega)
        · exact hi i j hij (by omega)
      have h3 := ih _ h1 h2 g
      rw [pd, pd, ← h3, pd_upd (fun i => g (f i)) k (g (f N)) N (by omega), hkN]
      congr 1
      refine pd_cong N (fun i h => ?_)
      split <;> rfl

theorem pd_mod (b p : Nat) : ∀ N, pd (fun i => b * (i + 1) % p) N % p = b ^ N * pd (fun i => i + 1) N % p := by
  intro N
  induction N with
  | zero => simp [pd]
  | succ N ih =>
    rw [pd, pd, Nat.mul_mod, ih, Nat.mod_mod, ← Nat.mul_mod, Nat.pow_succ]
    congr 1
    simp only [Nat.mul_assoc, Nat.mul_left_comm]

theorem pd_free {p : Nat} (hp : Pr p) : ∀ N, N < p → ¬ p ∣ pd (fun i => i + 1) N := by
  intro N
  induction N with
  | zero => intro _ h; have := Nat.le_of_dvd (by decide) h; have := hp.1; simp [pd] at *; omega
  | succ N ih =>
    intro hN h
    rw [pd] at h
    rcases pr_mul hp h with h | h
    · exact ih (by omega) h
    · have := Nat.le_of_dvd (by omega) h; omega

/-- (Fermat) -/
theorem fermat {p b : Nat} (hp : Pr p) (hb : b % p ≠ 0) : b ^ (p - 1) % p = 1 := by
  have h2 := hp.1
  have hnd : ¬ p ∣ b := fun h => hb (Nat.mod_eq_zero_of_dvd h)
  have hne : ∀ i, i < p - 1 → b * (i + 1) % p ≠ 0 := by
    intro i hi h0
    rcases pr_mul hp (Nat.dvd_of_mod_eq_zero h0) with h | h
    · exact hnd h
    · have := Nat.le_of_dvd (by omega) h; omega
  have hlt : ∀ i, b * (i + 1) % p < p := fun i => Nat.mod_lt _ (by omega)
  have hperm := pd_perm (p - 1) (fun i => b * (i + 1) % p - 1) (fun i hi => by have := hne i hi; have := hlt i; show b * (i + 1) % p - 1 < p - 1; omega)
    (fun i j hij hj he => by
      have h1 := hne i (by omega)
      have h3 := hne j hj
      have he : b * (i + 1) % p - 1 = b * (j + 1) % p - 1 := he
      have h4 : b * (i + 1) % p = b * (j + 1) % p := by omega
      have h5 : p ∣ b * (j + 1) - b * (i + 1) := Nat.dvd_of_mod_eq_zero (Nat.sub_mod_eq_zero_of_mod_eq h4.symm)
      rw [← Nat.mul_sub] at h5
      rcases pr_mul hp h5 with h | h
      · exact hnd h
      · have := Nat.le_of_dvd (by omega) h; omega) (fun i => i + 1)
  rw [pd_cong (h := fun i => b * (i + 1) % p) (p - 1) (fun i hi => by have := hne i hi; show b * (i + 1) % p - 1 + 1 = _; omega)] at hperm
  have hm := pd_mod b p (p - 1)
  rw [hperm] at hm
  obtain ⟨G, hG⟩ : ∃ G, G = pd (fun i => i + 1) (p - 1) := ⟨_, rfl⟩
  have hfree := pd_free hp (p - 1) (by omega)
  rw [← hG] at hm hfree
  have hpos : 0 < b ^ (p - 1) := Nat.pow_pos (by rcases Nat.eq_zero_or_pos b with h | h; · subst h; simp at hb
                                                 · exact h)
  have h5 : p ∣ b ^ (p - 1) * G - 1 * G := Nat.dvd_of_mod_eq_zero (Nat.sub_mod_eq_zero_of_mod_eq (by rw [Nat.one_mul]; exact hm.symm))
  rw [← Nat.sub_mul] at h5
  rcases pr_mul hp h5 with h | h
  · obtain ⟨c, hc⟩ := h
    have : b ^ (p - 1) = p * c + 1 := by omega
    rw [this, Nat.mul_add_mod, Nat.mod_eq_of_lt (by omega)]
  · exact absurd h hfree

theorem fermat_all {p : Nat} (hp : Pr p) (b : Nat) : b ^ p % p = b % p := by
  have h2 := hp.1
  obtain ⟨q, rfl⟩ : ∃ q, p = q + 1 := ⟨p - 1, by omega⟩
  by_cases hb : b % (q + 1) = 0
  · rw [Nat.pow_succ, Nat.mul_mod, hb]; simp
  · have := fermat hp hb
    rw [Nat.add_sub_cancel] at this
    rw [Nat.pow_succ, Nat.mul_mod, this, Nat.one_mul, Nat.mod_mod]

/-- (Miller) An odd prime passes. -/
theorem prime_passes {n b t d : Nat} (hp : Pr n) (hb : b % n ≠ 0) (hd : n - 1 = 2 ^ t * d) : b ^ d % n = 1 ∨ ∃ i, i < t ∧ b ^ (d * 2 ^ i) % n = n - 1 :=
  miller hp t (by rw [Nat.mul_comm, ← hd]; exact fermat hp hb)

/-! ### Powers and polynomials a little beside -/

theorem pow_beside (v h : Int) : ∀ m : Nat, ∃ c : Int, (v + h) ^ (m + 1) = v ^ (m + 1) + ((m : Int) + 1) * v ^ m * h + h * h * c := by
  intro m
  induction m with
  | zero => exact ⟨0, by simp [Int.pow_succ]⟩
  | succ m ih =>
    obtain ⟨c, hc⟩ := ih
    refine ⟨v * c + ((m : Int) + 1) * v ^ m + h * c, ?_⟩
    rw [Int.pow_succ, hc, Int.pow_succ v (m + 1), Int.pow_succ v m]
    push_cast
    grind

theorem pow_lift {u v : Int} {p j : Nat} (hp : 1 ≤ p) (hj : 1 ≤ j) (h : ((p : Int) ^ j) ∣ u - v) : ((p : Int) ^ (j + 1)) ∣ u ^ p - v ^ p := by
  obtain ⟨t, ht⟩ := h
  obtain ⟨m, rfl⟩ : ∃ m, p = m + 1 := ⟨p - 1, by omega⟩
  obtain ⟨i, rfl⟩ : ∃ i, j = i + 1 := ⟨j - 1, by omega⟩
  obtain ⟨P, hP⟩ : ∃ P : Int, P = ((m + 1 : Nat) : Int) := ⟨_, rfl⟩
  rw [← hP] at ht ⊢
  obtain ⟨c, hc⟩ := pow_beside v (P ^ (i + 1) * t) m
  have hu : u = v + P ^ (i + 1) * t := by omega
  have hP' : (m : Int) + 1 = P := by rw [hP]; simp
  rw [hu, hc, hP']
  refine ⟨v ^ m * t + P ^ i * t * t * c, ?_⟩
  rw [Int.pow_succ P (i + 1), Int.pow_succ P i]
  grind

/-- (Euler) A power's power leaves the same. -/
theorem teich_fix {p : Nat} (hp : Pr p) (a : Int) (ha : (p : Int) ∣ a ^ p - a) : ∀ k : Nat, 1 ≤ k → ((p : Int) ^ k) ∣ a ^ (p ^ k) - a ^ (p ^ (k - 1)) := by
  intro k hk
  induction k with
  | zero => omega
  | succ k ih =>
    by_cases h0 : k = 0
    · subst h0; simpa [Int.pow_succ] using ha
    · have h := pow_lift (by have := hp.1; omega) (by omega) (ih (by omega))
      rw [← Int.pow_mul, ← Int.pow_mul, ← Nat.pow_succ, ← Nat.pow_succ, show (k - 1).succ = k by omega] at h
      exact h

def pv : List Int → Int → Int
  | [], _ => 0
  | a :: l, x => a + x * pv l x
def dv : List Int → Int → Int
  | [], _ => 0
  | _ :: l, x => pv l x + x * dv l x

theorem pv_beside (l : List Int) (x h : Int) : ∃ c, pv l (x + h) = pv l x + dv l x * h + h * h * c := by
  induction l with
  | nil => exact ⟨0, by simp [pv, dv]⟩
  | cons a l ih =>
    obtain ⟨c, hc⟩ := ih
    refine ⟨x * c + dv l x + h * c, ?_⟩
    simp only [pv, dv, hc]
    grind

theorem pv_same (l : List Int) {x y m : Int} (h : m ∣ x - y) : m ∣ pv l x - pv l y := by
  induction l with
  | nil => simp [pv]
  | cons a l ih =>
    obtain ⟨s, hs⟩ := h
    obtain ⟨t, ht⟩ := ih
    refine ⟨s * pv l x + y * t, ?_⟩
    simp only [pv]
    grind

theorem dv_same (l : List Int) {x y m : Int} (h : m ∣ x - y) : m ∣ dv l x - dv l y := by
  induction l with
  | nil => simp [dv]
  | cons a l ih =>
    obtain ⟨r, hr⟩ := pv_same l h
    obtain ⟨s, hs⟩ := h
    obtain ⟨t, ht⟩ := ih
    refine ⟨r + s * dv l x + y * t, ?_⟩
    simp only [dv]
    grind

/-- The numbers of the derivative, from place k on. -/
def dl : Nat → List Int → List Int
  | _, [] => []
  | k, a :: l => (k : Int) * a :: dl (k + 1) l

theorem pv_dl (l : List Int) (x : Int) : ∀ k : Nat, pv (dl k l) x = (k : Int) * pv l x + x * dv l x := by
  induction l with
  | nil => intro k; simp [dl, pv, dv]
  | cons a l ih =>
    intro k
    simp only [dl, pv, dv, ih]
    push_cast
    grind

theorem dv_dl (a : Int) (l : List Int) (x : Int) : dv (a :: l) x = pv (dl 1 l) x := by
  rw [pv_dl]; simp [dv]

theorem pv_congr (m : Int) (x : Int) : ∀ l l' : List Int, l.length = l'.length → (∀ i, i < l.length → m ∣ l.getD i 0 - l'.getD i 0) → m ∣ pv l x - pv l' x := by
  intro l
  induction l with
  | nil => intro l' h _; cases l' with
    | nil => simp [pv]
    | cons _ _ => simp at h
  | cons a l ih =>
    intro l' h he
    cases l' with
    | nil => simp at h
    | cons b l' =>
      obtain ⟨s, hs⟩ := ih l' (by simpa using h) (fun i hi => by have := he (i + 1) (by simp; omega); simpa using this)
      have h0 := he 0 (by simp)
      simp at h0
      obtain ⟨t, ht⟩ := h0
      refine ⟨t + x * s, ?_⟩
      simp only [pv]
      grind

theorem pv_drop (l : List Int) (x : Int) (k : Nat) (hk : k < l.length) : pv (l.drop k) x = l.getD k 0 + x * pv (l.drop (k + 1)) x := by
  rw [List.drop_eq_getElem_cons hk, pv, List.getD_eq_getElem?_getD, List.getElem?_eq_getElem hk]; rfl

theorem pv_take (x : Int) : ∀ (l : List Int) (i : Nat), i < l.length → pv (l.take (i + 1)) x = pv (l.take i) x + l.getD i 0 * x ^ i := by
  intro l
  induction l with
  | nil => intro i h; simp at h
  | cons a l ih =>
    intro i h
    cases i with
    | zero => simp [pv]
    | succ i =>
      have := ih i (by simpa using h)
      simp only [List.take_succ_cons, pv, List.getD_cons_succ] at this ⊢
      rw [this, Int.pow_succ]
      grind

theorem dv_take (x : Int) : ∀ (l : List Int) (i : Nat), 1 ≤ i → i < l.length → dv (l.take (i + 1)) x = dv (l.take i) x + l.getD i 0 * i * x ^ (i - 1) := by
  intro l
  induction l with
  | nil => intro i _ h; simp at h
  | cons a l ih =>
    intro i h1 h
    obtain ⟨i, rfl⟩ : ∃ j, i = j + 1 := ⟨i - 1, by omega⟩
    have h' : i < l.length := by simpa using h
    have hp := pv_take x l i h'
    simp only [List.take_succ_cons, dv, List.getD_cons_succ, Nat.add_sub_cancel]
    by_cases h0 : i = 0
    · subst h0
      rw [hp]
      cases l with
      | nil => simp at h'
      | cons b l => simp [dv, pv]
    · have hd := ih i (by omega) h'
      obtain ⟨r, rfl⟩ : ∃ r, i = r + 1 := ⟨i - 1, by omega⟩
      rw [hp, hd, Nat.add_sub_cancel, Int.pow_succ]
      push_cast
      grind

/-- (Hensel) One step. -/
theorem hensel_step {l : List Int} {j : Nat} {P x x0 v y : Int} (hj : 1 ≤ j) (hx : P ∣ x - x0) (hr : (P ^ j) ∣ pv l x) (hv : P ∣ dv l x0 * v - 1)
    (hy : (P ^ (j + 1)) ∣ y - (x - pv l x * v)) : P ∣ y - x0 ∧ (P ^ (j + 1)) ∣ pv l y := by
  obtain ⟨i, rfl⟩ : ∃ i, j = i + 1 := ⟨j - 1, by omega⟩
  have hd := dv_same l hx
  obtain ⟨t, ht⟩ := hr
  obtain ⟨c, hc⟩ := pv_beside l x (-(pv l x * v))
  obtain ⟨z, hz⟩ := hx
  obtain ⟨s, hs⟩ := hv
  obtain ⟨r, hrr⟩ := hd
  have hsame := pv_same l hy
  obtain ⟨q, hq⟩ := hy
  obtain ⟨g, hg⟩ := hsame
  rw [Int.pow_succ P (i + 1), Int.pow_succ P i] at hq hg ⊢
  rw [Int.pow_succ P i] at ht
  constructor
  · exact ⟨z + P ^ i * P * q - P ^ i * t * v, by grind⟩
  · have e : x - pv l x * v = x + -(pv l x * v) := by omega
    rw [e] at hg
    obtain ⟨A, hA⟩ : ∃ A, A = pv l x := ⟨_, rfl⟩
    obtain ⟨D, hD⟩ : ∃ D, D = dv l x := ⟨_, rfl⟩
    rw [← hA, ← hD] at hc
    rw [← hD] at hrr
    rw [← hA] at ht hg
    rw [hc] at hg
    obtain ⟨E, hE⟩ : ∃ E, E = dv l x0 := ⟨_, rfl⟩
    rw [← hE] at hrr hs
    obtain ⟨Y, hY⟩ : ∃ Y, Y = pv l y := ⟨_, rfl⟩
    rw [← hY] at hg ⊢
    clear hc hA hD hE hY e hq
    obtain ⟨Q, hQ⟩ : ∃ Q, Q = P ^ i := ⟨_, rfl⟩
    rw [← hQ] at ht hg ⊢
    have hdv : D * v = 1 + P * (s + r * v) := by grind
    refine ⟨g - t * (s + r * v) + Q * t * t * v * v * c, ?_⟩
    have e1 : Y = Q * P * P * g + (A + D * -(A * v) + -(A * v) * -(A * v) * c) := by omega
    rw [e1, ht]
    have e2 : Q * P * t + D * -(Q * P * t * v) = Q * P * t * (1 - D * v) := by grind
    rw [e2, hdv]
    grind

end Go.Proofs.YtfbgblidlabipaaGreatDoor
end
