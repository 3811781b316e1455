import Derived.Test.YtcnfhndejkngkaaGreatDoorJpQ
import Derived.Test.YtcnfhndejkngkaaGreatDoorJpJ
import Derived.Shelf.Spec.TrailingZeros
section
set_option linter.unusedSimpArgs false
set_option linter.unusedVariables false
set_option maxRecDepth 100000
namespace Go.Proofs.YtcnfhndejkngkaaGreatDoor
open Go.RowKit
attribute [local go_sem] Oper.semAt_some
open Classical in
noncomputable def befP (m : Nat) : List Int := ((List.range m).filter fun n => decide (Pr n)).map fun n : Nat => (n : Int)
open Classical in
theorem befP_succ (m : Nat) : befP (m + 1) = befP m ++ (if Pr m then [(m : Int)] else []) := by
  unfold befP
  rw [List.range_succ, List.filter_append, List.map_append]
  congr 1
  by_cases h : Pr m
  · simp [h]
  · simp [h]
theorem befP_yes {m : Nat} (h : Pr m) : befP (m + 1) = befP m ++ [(m : Int)] := by rw [befP_succ, if_pos h]
theorem befP_no {m : Nat} (h : ¬ Pr m) : befP (m + 1) = befP m := by rw [befP_succ, if_neg h, List.append_nil]
theorem befP_mem (m : Nat) (x : Int) : x ∈ befP m ↔ ∃ q : Nat, x = q ∧ q < m ∧ Pr q := by
  classical
  simp only [befP, List.mem_map, List.mem_filter, List.mem_range, decide_eq_true_eq]
  constructor
  · rintro ⟨q, ⟨h1, h2⟩, rfl⟩; exact ⟨q, rfl, h1, h2⟩
  · rintro ⟨q, rfl, h1, h2⟩; exact ⟨q, ⟨h1, h2⟩, rfl⟩
theorem befP_el {m i : Nat} (h : i < (befP m).length) : ∃ q : Nat, (befP m).getD i 0 = q ∧ q < m ∧ Pr q := by
  refine (befP_mem m _).1 ?_
  rw [List.getD_eq_getElem?_getD, List.getElem?_eq_getElem h]
  exact List.getElem_mem _
theorem befP_inc (m : Nat) : (befP m).Pairwise (· < ·) := by
  unfold befP
  refine List.Pairwise.map _ ?_ (List.Pairwise.filter _ List.pairwise_lt_range)
  intro a b h
  omega
theorem befP_lt {m i j : Nat} (hij : i < j) (hj : j < (befP m).length) : (befP m).getD i 0 < (befP m).getD j 0 := by
  rw [List.getD_eq_getElem?_getD, List.getD_eq_getElem?_getD, List.getElem?_eq_getElem (by omega), List.getElem?_eq_getElem hj]
  exact List.pairwise_iff_getElem.1 (befP_inc m) i j (by omega) hj hij
theorem befP_pre {m n : Nat} (h : m ≤ n) : befP m <+: befP n := by
  classical
  induction n with
  | zero => obtain rfl : m = 0 := by omega
            exact List.prefix_refl _
  | succ n ih =>
    by_cases e : m = n + 1
    · subst e; exact List.prefix_refl _
    · refine (ih (by omega)).trans ?_
      rw [befP_succ]; exact List.prefix_append ..
theorem befP_two : befP 2 = [] := by
  have h : ∀ q, q < 2 → ¬ Pr q := fun q hq hp => by have := hp.1; omega
  rw [befP_no (h 1 (by omega)), befP_no (h 0 (by omega))]; rfl
def pasP (m i : Nat) : Prop := ∀ j, j < i → (befP m).getD j 0 * (befP m).getD j 0 ≤ m ∧ (m : Int) % (befP m).getD j 0 ≠ 0
theorem befP_yield {m i : Nat} (hm : 2 ≤ m) (hi : i ≤ (befP m).length) (hp : pasP m i) (h : i = (befP m).length ∨ (m : Int) < (befP m).getD i 0 * (befP m).getD i 0) : Pr m := by
  refine Classical.byContradiction fun hn => ?_
  obtain ⟨q, hq, c, hc⟩ := pr_divisor m hm
  -- the lesser of q and a prime of c
  have key : ∃ d, Pr d ∧ d ∣ m ∧ d * d ≤ m := by
    by_cases h1 : q ≤ c
    · exact ⟨q, hq, ⟨c, hc⟩, by rw [hc]; exact Nat.mul_le_mul_left q h1⟩
    · by_cases hc1 : c < 2
      · exfalso
        have hc0 : c ≠ 0 := by rintro rfl; simp at hc; omega
        obtain rfl : c = 1 := by omega
        rw [Nat.mul_one] at hc
        exact hn (hc ▸ hq)
      · obtain ⟨d, hd, e, he⟩ := pr_divisor c (by omega)
        have hdc : d ≤ c := Nat.le_of_dvd (by omega) ⟨e, he⟩
        refine ⟨d, hd, Nat.dvd_trans ⟨e, he⟩ ⟨q, by rw [Nat.mul_comm]; exact hc⟩, ?_⟩
        have h2 : d * d ≤ q * c := Nat.mul_le_mul (by omega) hdc
        omega
  obtain ⟨d, hd, hdm, hdd⟩ := key
  have hd2 := hd.1
  have hdlt : d < m := by
    have : d * 2 ≤ d * d := Nat.mul_le_mul_left d hd2
    omega
  obtain ⟨j, hj, hje⟩ := List.getElem_of_mem ((befP_mem m d).2 ⟨d, rfl, hdlt, hd⟩)
  have hjd : (befP m).getD j 0 = (d : Int) := by rw [List.getD_eq_getElem?_getD, List.getElem?_eq_getElem hj, hje]; rfl
  rcases Nat.lt_or_ge j i with h1 | h1
  · have := (hp j h1).2
    rw [hjd] at this
    exact this (by rw [← Int.natCast_emod, Nat.mod_eq_zero_of_dvd hdm]; rfl)
  · rcases h with h | h
    · omega
    · obtain ⟨r, hr, _, _⟩ := befP_el (show i < (befP m).length by omega)
      have hle : (befP m).getD i 0 ≤ (befP m).getD j 0 := by
        rcases Nat.lt_or_ge i j with h2 | h2
        · exact Int.le_of_lt (befP_lt h2 hj)
        · rw [show i = j by omega]; exact Int.le_refl _
      rw [hjd, hr] at hle
      rw [hr] at h
      have h3 : r * r ≤ d * d := Nat.mul_le_mul (by omega) (by omega)
      have h4 : (r : Int) * (r : Int) = ((r * r : Nat) : Int) := by simp
      rw [h4] at h
      omega
theorem befP_go {m i : Nat} (hi : i < (befP m).length) (h : (m : Int) % (befP m).getD i 0 = 0) : ¬ Pr m := by
  obtain ⟨q, hq, hqm, hqp⟩ := befP_el hi
  rw [hq] at h
  intro hp
  have hd : q ∣ m := Int.natCast_dvd_natCast.1 (Int.dvd_of_emod_eq_zero h)
  have := hqp.1
  rcases hp.2 q hd with e | e <;> omega
set_option maxHeartbeats 1000000 in
theorem rising_upto (B : Nat) (hBp : Pr B) (hB3 : B ≤ 3000) (F : Fence) (n : Nat) (hF : F.fn 177) (hro : F.round = none) (hn : 1 ≤ n) : YieldsO F n Tryz.prog 177 (befP (B + 1)) := by
  intro l J Jx W hJ hY hend h0
  obtain ⟨i0, hi, hz0, hz1, hz2⟩ := info_parts Tryz.infoInt
  have HI : Hid (Tryz.prog.info? 3 = some i0 ∧ i0.zero = some (.int .i64 0) ∧ i0.size = 1 ∧ i0.bytes = 8) := ⟨hi, hz0, hz1, hz2⟩
  have HY : Hid (∀ o pre x W1, J o pre W1 → (∀ g, o = some g → W.heap.size ≤ g ∧ g < W1.heap.size) → W.heap.size ≤ W1.heap.size → pre ++ [x] <+: (befP (B + 1)) → YieldAt F (n - 1) Tryz.prog l #[.int .i64 x] W1 fun e W' =>
      (e = .returned (.bool true) ∧ J o (pre ++ [x]) W' ∧ W1.heap.size ≤ W'.heap.size ∧ ∀ g, o = some g → W'.heap[g]? = W1.heap[g]?) ∨ (e = .returned (.bool false) ∧ Jx o (pre ++ [x]) W')) := hY
  have HJ : Hid (AbO J) := hJ
  have HEnd : Hid (∀ o W1, J o (befP (B + 1)) W1 → False) := hend
  have H0 : Hid (J none [] W) := h0
  clear hi hz0 hz1 hz2 hY hJ hend h0
  have hB2 := hBp.1
  have HBP : Hid (Pr B) := hBp
  clear hBp
  refine callsIn_of_wp Tryz.func177 rfl hF ?_ hro
  simp only [Tryz.ntmps177, List.size_toArray, List.length_cons, List.length_nil, Nat.reduceAdd, Nat.reduceSub, Array.replicate_succ, Array.replicate_zero, List.push_toArray, List.append_toArray, List.nil_append, List.cons_append]
  refine wpIn_scope_plain ?_
  gi_wp2
  refine wpIn_label ?_
  gi_wp2
  gi_loopw [2, 3] (fun bv nv wr => ∃ (a : Option Addr) (c k m : Nat), bv = .slice a k c ∧ nv = .int .i64 m ∧ 2 ≤ m ∧ m ≤ B ∧ k ≤ m ∧ Hid (k = (befP m).length ∧ J (Value.slice a k c).ownBlock (befP m) wr ∧ W.heap.size ≤ wr.heap.size ∧ wr.ownsRow W.heap.size 3 1 (.slice a k c) k (ints (befP m)))) (fun _ nv _ => B + 1 - (intOf nv).toNat)
  case atStart => exact ⟨none, 0, 0, 2, rfl, rfl, by omega, by omega, by omega, by rw [befP_two]; rfl, by rw [befP_two]; exact H0.out, Nat.le_refl _, by rw [befP_two]; exact World.ownsRow_nil _ _ _ _⟩
  case round =>
    obtain ⟨wo, hwo⟩ : ∃ wo, wo = wr := ⟨_, rfl⟩
    subst hwo
    obtain ⟨a, c, k, m, rfl, rfl, hm1, hm2, hk3, HR⟩ := hrel
    obtain ⟨hk, hJm, hzo, hrow⟩ := HR.out
    have HKE : Hid (k = (befP m).length) := hk
    have HJm : Hid (J (Value.slice a k c).ownBlock (befP m) wo) := hJm
    have HRow : Hid (wo.ownsRow W.heap.size 3 1 (.slice a k c) k (ints (befP m))) := hrow
    clear hk hJm hrow HR
    gi_wp2
    gi_loopw [10] (fun iv wx => ∃ i : Nat, i ≤ k ∧ iv = .int .i64 i ∧ Hid (wx = wo ∧ pasP m i)) (fun iv _ => k - (intOf iv).toNat)
    case atStart => exact ⟨0, Nat.zero_le _, rfl, rfl, fun j hj => absurd hj (Nat.not_lt_zero _)⟩
    case round =>
      obtain ⟨i, hi, rfl, HRi⟩ := hrel
      obtain ⟨hw, hpass⟩ := HRi.out
      subst hw
      have HPs : Hid (pasP m i) := hpass
      clear hpass HRi
      by_cases hik : i < k
      · obtain ⟨g, rfl⟩ : ∃ g, a = some ⟨g, 0, none⟩ := by
          rcases HRow.out.2 with ⟨_, h⟩ | ⟨g, _, _, h, _⟩
          · omega
          · simp only [Value.slice.injEq] at h; exact ⟨g, h.1⟩
        obtain ⟨p, hp⟩ : ∃ p, p = (befP m).getD i 0 := ⟨_, rfl⟩
        have hcell : wr.cell? ⟨g, i, none⟩ = some (.int .i64 p) := by
          rw [HRow.out.cellAt i (by omega), hp, ints, List.getElem?_map, List.getD_eq_getElem?_getD, List.getElem?_eq_getElem (by have := HKE.out; omega)]
          rfl
        obtain ⟨hp1, hp2⟩ : 2 ≤ p ∧ p ≤ 3000 := by
          obtain ⟨q, hq, hq1, hq2⟩ := befP_el (m := m) (i := i) (by have := HKE.out; omega)
          have := hq2.1
          rw [hp, hq]; omega
        have HP : Hid (p = (befP m).getD i 0) := hp
        clear hp
        have hpp : 0 ≤ p * p ∧ p * p ≤ 9000000 := by
          have h1 := Int.mul_le_mul hp2 hp2 (by omega) (by omega)
          have h2 := Int.mul_nonneg (show 0 ≤ p by omega) (show 0 ≤ p by omega)
          omega
        have hp0 : (p == 0) = false := beq_eq_false_iff_ne.2 (by omega)
        by_cases hsq : (m : Int) < p * p
        · have hsqb : decide ((m : Int) < p * p) = true := decide_eq_true hsq
          have hPm : Pr m := befP_yield hm1 (by have := HKE.out; omega) HPs.out (.inr (by rw [← HP.out]; exact hsq))
          have hnext := befP_yes hPm
          have hpre : befP m ++ [(m : Int)] <+: befP (B + 1) := by rw [← hnext]; exact befP_pre (by omega)
          have HNx : Hid (befP (m + 1) = befP m ++ [(m : Int)]) := hnext
          clear hPm
          obtain ⟨fn, tmps, assign, body, hy, hR⟩ := HY.out _ (befP m) m wr HJm.out (fun g' e => HRow.out.lt g' e) (by omega) hpre
          clear hpre hnext
          gi_wp2
          refine hR.mono ?_
          rintro e W' (⟨rfl, hJ', zk, hk'⟩ | ⟨rfl, hJx'⟩)
          · have row' := row_kept HRow.out hk'
            have ROW : Hid (W'.ownsRow W.heap.size 3 1 (.slice (some ⟨g, 0, none⟩) k c) k (ints (befP m))) := row'
            have JJ : Hid (J (Value.slice (some ⟨g, 0, none⟩) k c).ownBlock (befP m ++ [(m : Int)]) W') := hJ'
            have hm7 : m ≠ B := by
              intro e
              have h := hJ'
              rw [← HNx.out, e] at h
              exact HEnd.out _ W' h
            have hnx : befP (m + 1) = befP m ++ [(m : Int)] := HNx.out
            have HNX : Hid (befP (m + 1) = befP m ++ [(m : Int)]) := hnx
            clear row' hJ' hk' hnx HNx hR hy
            gi_wp2_with (gi_at_builtin; refine wpListIn_append_own_at _ rfl _ _ 65 rfl W.heap.size 3 i0 (.int .i64 0) 1 8 Tryz.underlying65 HI.out.1 HI.out.2.1 HI.out.2.2.1 HI.out.2.2.2 rfl (by decide) (.slice (some ⟨g, 0, none⟩) k c) k (ints (befP m)) rfl (ROW.out.alloc _) ⟨W'.heap.size, 0, none⟩ 1 1 [.int .i64 m] rfl rfl (cell_one_new _ _ _) (by simp [Value.oneCell']) (by simp only [maxLen]; omega) (by omega) (by simp; omega) ?_; intro v' w1 hown' hgrow _ hob; obtain ⟨g', cap', rfl⟩ := ownsRow_succ hown')
            have hJ1 : J (Value.slice (some ⟨g', 0, none⟩) (k + 1) cap').ownBlock (befP m ++ [(m : Int)]) w1 := HJ.out _ _ _ _ _ (HJ.out.alloc _ JJ.out) hgrow (by
              rcases hob with h | h
              · exact .inl h
              · exact .inr ⟨_, h, Nat.le_refl _⟩)
            have zg := hgrow.size
            simp at zg
            have hrow1 : w1.ownsRow W.heap.size 3 1 (.slice (some ⟨g', 0, none⟩) (k + 1) cap') (k + 1) (ints (befP (m + 1))) := by
              rw [HNX.out, ints, List.map_append]; exact hown'
            have HJ1 : Hid (J (Value.slice (some ⟨g', 0, none⟩) (k + 1) cap').ownBlock (befP (m + 1)) w1) := by rw [HNX.out]; exact hJ1
            have HR1 : Hid (w1.ownsRow W.heap.size 3 1 (.slice (some ⟨g', 0, none⟩) (k + 1) cap') (k + 1) (ints (befP (m + 1)))) := hrow1
            have hk1 : k + 1 ≤ m + 1 := by omega
            clear hJ1 hrow1 hown' hgrow hob
            gi_wp2
            go_roundw
            case rel =>
              refine ⟨some ⟨g', 0, none⟩, cap', k + 1, m + 1, rfl, by go_num, by omega, by omega, hk1, ?_, HJ1.out, by omega, HR1.out⟩
              rw [HNX.out, List.length_append, ← HKE.out]; rfl
            case measure => simp [intOf]; omega
          · gi_wp2
            rw [Exit.noGoto_ret]
            exact bodyPost_ret (results_none rfl _ _ _) rfl ⟨⟨_, rfl⟩, _, _, hJx'⟩
        · have hsqb : decide ((m : Int) < p * p) = false := decide_eq_false hsq
          by_cases hmod : (m : Int) % p = 0
          · have hnPm : ¬ Pr m := befP_go (m := m) (i := i) (by have := HKE.out; omega) (by rw [← HP.out]; exact hmod)
            have hnx : befP (m + 1) = befP m := befP_no hnPm
            have hm7 : m < B := by
              rcases Nat.lt_or_ge m B with h | h
              · exact h
              · exact absurd ((show m = B by omega) ▸ HBP.out) hnPm
            clear hnPm
            have hmb : (((m : Int) % p) == 0) = true := by rw [hmod]; rfl
            have HNX : Hid (befP (m + 1) = befP m) := hnx
            clear hnx hmod hsq
            gi_wp2
            go_roundw
            case rel =>
              refine ⟨some ⟨g, 0, none⟩, c, k, m + 1, rfl, by go_num, by omega, by omega, by omega, ?_, ?_, by omega, ?_⟩
              · rw [HNX.out]; exact HKE.out
              · rw [HNX.out]; exact HJm.out
              · rw [HNX.out]; exact HRow.out
            case measure => simp [intOf]; omega
          · have hmb : (((m : Int) % p) == 0) = false := beq_eq_false_iff_ne.2 hmod
            have HN : Hid (pasP m (i + 1)) := by
              intro j hj
              by_cases hji : j = i
              · subst hji; rw [← HP.out]; exact ⟨by omega, hmod⟩
              · exact HPs.out j (by omega)
            clear hmod hsq
            gi_wp2
            go_roundw
            case rel => exact ⟨i + 1, by omega, by go_num, by first | rfl | trivial, HN.out⟩
            case measure => simp [intOf]; omega
      · obtain rfl : i = k := by omega
        have hPm : Pr m := befP_yield hm1 (by have := HKE.out; omega) HPs.out (.inl HKE.out)
        have hnext := befP_yes hPm
        have hpre : befP m ++ [(m : Int)] <+: befP (B + 1) := by rw [← hnext]; exact befP_pre (by omega)
        have HNx : Hid (befP (m + 1) = befP m ++ [(m : Int)]) := hnext
        clear hPm
        obtain ⟨fn, tmps, assign, body, hy, hR⟩ := HY.out _ (befP m) m wr HJm.out (fun g' e => HRow.out.lt g' e) (by omega) hpre
        clear hpre hnext
        gi_wp2
        refine hR.mono ?_
        rintro e W' (⟨rfl, hJ', zk, hk'⟩ | ⟨rfl, hJx'⟩)
        · have row' := row_kept HRow.out hk'
          have ROW : Hid (W'.ownsRow W.heap.size 3 1 (.slice a i c) i (ints (befP m))) := row'
          have JJ : Hid (J (Value.slice a i c).ownBlock (befP m ++ [(m : Int)]) W') := hJ'
          have hm7 : m ≠ B := by
            intro e
            have h := hJ'
            rw [← HNx.out, e] at h
            exact HEnd.out _ W' h
          have hnx : befP (m + 1) = befP m ++ [(m : Int)] := HNx.out
          have HNX : Hid (befP (m + 1) = befP m ++ [(m : Int)]) := hnx
          clear row' hJ' hk' hnx HNx hR hy
          gi_wp2_with (gi_at_builtin; refine wpListIn_append_own_at _ rfl _ _ 65 rfl W.heap.size 3 i0 (.int .i64 0) 1 8 Tryz.underlying65 HI.out.1 HI.out.2.1 HI.out.2.2.1 HI.out.2.2.2 rfl (by decide) (.slice a i c) i (ints (befP m)) rfl (ROW.out.alloc _) ⟨W'.heap.size, 0, none⟩ 1 1 [.int .i64 m] rfl rfl (cell_one_new _ _ _) (by simp [Value.oneCell']) (by simp only [maxLen]; omega) (by omega) (by simp; omega) ?_; intro v' w1 hown' hgrow _ hob; obtain ⟨g', cap', rfl⟩ := ownsRow_succ hown')
          have hJ1 : J (Value.slice (some ⟨g', 0, none⟩) (i + 1) cap').ownBlock (befP m ++ [(m : Int)]) w1 := HJ.out _ _ _ _ _ (HJ.out.alloc _ JJ.out) hgrow (by
            rcases hob with h | h
            · exact .inl h
            · exact .inr ⟨_, h, Nat.le_refl _⟩)
          have zg := hgrow.size
          simp at zg
          have hrow1 : w1.ownsRow W.heap.size 3 1 (.slice (some ⟨g', 0, none⟩) (i + 1) cap') (i + 1) (ints (befP (m + 1))) := by
            rw [HNX.out, ints, List.map_append]; exact hown'
          have HJ1 : Hid (J (Value.slice (some ⟨g', 0, none⟩) (i + 1) cap').ownBlock (befP (m + 1)) w1) := by rw [HNX.out]; exact hJ1
          have HR1 : Hid (w1.ownsRow W.heap.size 3 1 (.slice (some ⟨g', 0, none⟩) (i + 1) cap') (i + 1) (ints (befP (m + 1)))) := hrow1
          have hk1 : i + 1 ≤ m + 1 := by omega
          clear hJ1 hrow1 hown' hgrow hob
          gi_wp2
          go_roundw
          case rel =>
            refine ⟨some ⟨g', 0, none⟩, cap', i + 1, m + 1, rfl, by go_num, by omega, by omega, hk1, ?_, HJ1.out, by omega, HR1.out⟩
            rw [HNX.out, List.length_append, ← HKE.out]; rfl
          case measure => simp [intOf]; omega
        · gi_wp2
          rw [Exit.noGoto_ret]
          exact bodyPost_ret (results_none rfl _ _ _) rfl ⟨⟨_, rfl⟩, _, _, hJx'⟩
end Go.Proofs.YtcnfhndejkngkaaGreatDoor
end

section
set_option linter.unusedSimpArgs false
set_option linter.unusedVariables false
set_option maxRecDepth 100000
namespace Go.Proofs.YtcnfhndejkngkaaGreatDoor
open Go.RowKit
attribute [local go_sem] Oper.semAt_some
def nine : List Int := [2, 3, 5, 7, 11, 13, 17, 19, 23]
end Go.Proofs.YtcnfhndejkngkaaGreatDoor
end

section
set_option linter.unusedVariables false
set_option maxRecDepth 100000
namespace Go.Proofs.YtcnfhndejkngkaaGreatDoor
def prd : List Int → Int
  | [] => 1
  | x :: t => x * prd t
structure Sm (r : List Int) : Prop where
  mem : ∀ y ∈ r, y ∈ ([2, 3, 5, 7, 11, 13, 17, 19, 23] : List Int)
  sort : r.Pairwise (· ≤ ·)
theorem prd_dvd {r : List Int} {x : Int} (hx : x ∈ r) : x ∣ prd r := by
  induction r with
  | nil => simp at hx
  | cons a t ih =>
    rcases List.mem_cons.1 hx with h | h
    · subst h; exact ⟨prd t, rfl⟩
    · exact Int.dvd_trans (ih h) ⟨a, by show a * prd t = _; rw [Int.mul_comm]⟩
end Go.Proofs.YtcnfhndejkngkaaGreatDoor
end

section
set_option linter.unusedSimpArgs false
set_option linter.unusedVariables false
set_option maxRecDepth 100000
namespace Go.Proofs.YtcnfhndejkngkaaGreatDoor
open Go.RowKit
attribute [local go_sem] Oper.semAt_some
theorem appendGreat_one (v : Value) (w : World) :
    Calls Tryz.prog 178 #[v, .int .i64 1] w fun e w' => e = .returned v ∧ w' = w := by
  go_enter Tryz.func178, Tryz.ntmps178
  go_wp2
  go_ret
  exact ⟨rfl, rfl⟩
end Go.Proofs.YtcnfhndejkngkaaGreatDoor
end

section
set_option linter.unusedSimpArgs false
set_option linter.unusedVariables false
set_option maxRecDepth 100000
namespace Go.Proofs.YtcnfhndejkngkaaGreatDoor
open Go.RowKit
attribute [local go_sem] Oper.semAt_some
structure FS (h : Nat) (w : World) (d r : List Int) (o : Option Nat) (W : World) : Prop where
  n : Vr h (.int .i64 (prd r)) W
  l : ∃ a c, Vr (h + 1) (.slice a d.length c) W ∧ W.ownsRow (h + 4) 3 1 (.slice a d.length c) d.length (ints d) ∧ ∀ g, (Value.slice a d.length c).ownBlock = some g → o ≠ some g
  b : Below h w W
  o : ow (h + 2) o W
theorem FS.step {h : Nat} {w : World} {d r : List Int} {o o' : Option Nat} {W W' : World} (s : FS h w d r o W) (hg : W.grownBy W' o) (ho : o' = o ∨ ∃ g, o' = some g ∧ W.heap.size ≤ g) : FS h w d r o' W' := by
  obtain ⟨a, c, h1, h2, h3⟩ := s.l
  refine ⟨s.n.grown hg (s.o.ne (by omega)), ⟨a, c, h1.grown hg (s.o.ne (by omega)), row_kept h2 (fun g e => hg.block g (h2.lt g e).2 (fun e2 => h3 g e e2.symm)), ?_⟩, s.b.grown hg (by have := s.o.1; omega) (fun k e => by have := s.o.2 k e; omega), s.o.step hg ho⟩
  intro g e
  rcases ho with h4 | ⟨g2, h4, h5⟩
  · rw [h4]; exact h3 g e
  · rw [h4]; intro e2; cases e2; have := (h2.lt g e).2; omega
theorem FS.put {h : Nat} {w : World} {d r : List Int} {o : Option Nat} {W : World} (s : FS h w d r o W) (ob : Obj) (k : Nat) (hk : k = h + 2 ∨ k = h + 3) : FS h w d r o (W.putObj k ob) := by
  obtain ⟨a, c, h1, h2, h3⟩ := s.l
  exact ⟨s.n.put ob (by omega), ⟨a, c, h1.put ob (by omega), row_kept h2 (fun g e => World.putObj_heap_other (by have := (h2.lt g e).1; omega)), h3⟩, s.b.grown (grownBy_putObj' W _ ob) (by have := s.o.1; omega) (fun k e => by cases e; omega), s.o.put ob⟩
def leftAt (h : Nat) (W : World) : Nat := match W.cell? ⟨h, 0, none⟩ with
  | some (.int _ q) => q.toNat
  | _ => 0
theorem FS.left {h : Nat} {w : World} {d r : List Int} {o : Option Nat} {W : World} (s : FS h w d r o W) : leftAt h W = (prd r).toNat := by
  unfold leftAt; rw [s.n.c]
def FacPost (l : List Int) (w : World) (e : Ending) (w' : World) : Prop :=
  ∃ a c, e = .returned (.slice a l.length c) ∧ w'.ownsRow w.heap.size 3 1 (.slice a l.length c) l.length (ints l) ∧ Below w.heap.size w w'
end Go.Proofs.YtcnfhndejkngkaaGreatDoor
end

section
set_option linter.unusedVariables false
set_option maxRecDepth 100000
namespace Go.Proofs.YtcnfhndejkngkaaGreatDoor
def twoS (n : Nat) : Int := if n % 8 = 3 ∨ n % 8 = 5 then -1 else 1
def sgnS (a n : Nat) : Int := if a % 4 = 3 ∧ n % 4 = 3 then -1 else 1
def jac (a n : Nat) : Int :=
  if h0 : a = 0 then (if n = 1 then 1 else 0)
  else if a % 2 = 0 then twoS n * jac (a / 2) n
  else sgnS a n * jac (n % a) a
termination_by a
decreasing_by
  · omega
  · exact Nat.mod_lt _ (by omega)
end Go.Proofs.YtcnfhndejkngkaaGreatDoor
end

section
set_option linter.unusedSimpArgs false
set_option linter.unusedVariables false
set_option maxRecDepth 100000
namespace Go.Proofs.YtcnfhndejkngkaaGreatDoor
open Go.RowKit
def Tb (w : World) : Prop := TabAt 5 Lib.deBruijn64tab w
theorem Tb.lt {w : World} (h : Tb w) : 5 < w.heap.size := by
  rcases Nat.lt_or_ge 5 w.heap.size with k | k
  · exact k
  · have h1 := h 0 (by decide)
    simp only [World.cell?, Array.getElem?_eq_none k] at h1; cases h1
theorem Tb.below {w w' : World} (h : Tb w) (k : Below w.heap.size w w') : Tb w' := fun j hj => (k.cell (p := ⟨5, j, none⟩) h.lt).trans (h j hj)
theorem Tb.alloc {w : World} (h : Tb w) (o : Obj) : Tb (w.alloc o) := h.below (Below.alloc (Below.refl _ _) (Nat.le_refl _) _)
set_option maxHeartbeats 1000000 in
theorem tz_core (x k idx : Nat) (w : World) (hx0 : ((x : Int) == 0) = false)
    (key : IntKind.u64.wrap (bits BinOp.and IntKind.u64 (x : Int) (IntKind.u64.wrap (-(x : Int))) * 285870213051353865) / 288230376151711744 = (idx : Int))
    (hi : idx < 64) (hk : k < 64) (hcell : w.cell? ⟨5, idx, none⟩ = some (.int .u8 k)) :
    Calls Tryz.prog 175 #[.int .u64 x] w fun e w' => e = .returned (.int .i64 k) ∧ w' = w := by
  go_enter Tryz.func175, Tryz.ntmps175
  go_wp2_with (simp only [key])
  go_ret
  exact ⟨rfl, rfl⟩
theorem tz_any (x : Nat) (hx : x < 18446744073709551616) (h0 : x ≠ 0) :
    ∃ t b : Nat, x = 2 ^ t * b ∧ b % 2 = 1 ∧ t < 64 ∧ ∀ w, Tb w → Calls Tryz.prog 175 #[.int .u64 x] w fun e w' => e = .returned (.int .i64 t) ∧ w' = w := by
  obtain ⟨hlow, hk⟩ := Lib.lowest_bit 64 x h0 hx
  obtain ⟨m, hm, hk2⟩ := Lib.ctzFrom_spec 64 x (by omega) hx
  have e : Lib.ctz 64 x = Lib.ctzFrom 64 x := by simp [Lib.ctz, h0]
  refine ⟨Lib.ctz 64 x, 2 * m + 1, by rw [e]; exact hm, by omega, hk, fun w hT => ?_⟩
  obtain ⟨hi, htab⟩ := Lib.deBruijn64_at _ hk
  have hcell := hT _ hi
  rw [htab] at hcell
  exact tz_core x _ _ w (by simp; omega) (tz64_key x _ hx h0 hlow) hi hk hcell
end Go.Proofs.YtcnfhndejkngkaaGreatDoor
end

section
set_option linter.unusedVariables false
set_option maxRecDepth 100000
namespace Go.Proofs.YtcnfhndejkngkaaGreatDoor
def pd (g : Nat → Nat) : Nat → Nat
  | 0 => 1
  | n + 1 => pd g n * g n
theorem pd_cong {g h : Nat → Nat} : ∀ N, (∀ i, i < N → g i = h i) → pd g N = pd h N := by
  intro N
  induction N with
  | zero => intro _; rfl
  | succ N ih => intro e; rw [pd, pd, ih (fun i hi => e i (by omega)), e N (by omega)]
theorem pd_upd (g : Nat → Nat) (k v : Nat) : ∀ N, k < N → pd g N * v = pd (fun i => if i = k then v else g i) N * g k := by
  intro N
  induction N with
  | zero => intro h; omega
  | succ N ih =>
    intro h
    rw [pd, pd]
    by_cases hk : k = N
    · subst hk
      rw [if_pos rfl, pd_cong (h := fun i => if i = k then v else g i) k (fun i hi => by rw [if_neg (by omega)])]
      rw [Nat.mul_assoc, Nat.mul_assoc, Nat.mul_comm (g k) v]
    · rw [if_neg (by omega), Nat.mul_right_comm, ih (by omega), Nat.mul_right_comm]
theorem pd_perm : ∀ (N : Nat) (f : Nat → Nat), (∀ i, i < N → f i < N) → (∀ i j, i < j → j < N → f i ≠ f j) → ∀ g : Nat → Nat, pd (fun i => g (f i)) N = pd g N := by
  intro N
  induction N with
  | zero => intro f _ _ g; rfl
  | succ N ih =>
    intro f hf hi g
    obtain ⟨k, hk, hkN⟩ := pigeon (N + 1) f hf hi N (by omega)
    by_cases hkn : k = N
    · subst hkn
      have h1 : ∀ i, i < k → f i < k := fun i h => by
        have := hf i (by omega)
        have := hi i k h (by omega)
        omega
      rw [pd, pd, ih f h1 (fun i j h h' => hi i j h (by omega)) g, hkN]
    · have h1 : ∀ i, i < N → (if i = k then f N else f i) < N := by
        intro i h
        split
        · have := hf N (by omega)
          have := hi k N (by omega) (by omega)
          omega
        · have := hf i (by omega)
          rcases Nat.lt_trichotomy i k with h3 | h3 | h3
          · have := hi i k h3 hk; omega
          · contradiction
          · have := hi k i h3 (by omega); omega
      have h2 : ∀ i j, i < j → j < N → (if i = k then f N else f i) ≠ (if j = k then f N else f j) := by
        intro i j hij hj
        split <;> split
        · omega
        · exact fun h => hi j N (by omega) (by omega) h.symm
        · exact hi i N (by omega) (by omega)
        · exact hi i j hij (by omega)
      have h3 := ih _ h1 h2 g
      rw [pd, pd, ← h3, pd_upd (fun i => g (f i)) k (g (f N)) N (by omega), hkN]
      congr 1
      refine pd_cong N (fun i h => ?_)
      split <;> rfl
theorem pd_mod (b p : Nat) : ∀ N, pd (fun i => b * (i + 1) % p) N % p = b ^ N * pd (fun i => i + 1) N % p := by
  intro N
  induction N with
  | zero => simp [pd]
  | succ N ih =>
    rw [pd, pd, Nat.mul_mod, ih, Nat.mod_mod, ← Nat.mul_mod, Nat.pow_succ]
    congr 1
    simp only [Nat.mul_assoc, Nat.mul_left_comm]
theorem pd_free {p : Nat} (hp : Pr p) : ∀ N, N < p → ¬ p ∣ pd (fun i => i + 1) N := by
  intro N
  induction N with
  | zero => intro _ h; have := Nat.le_of_dvd (by decide) h; have := hp.1; simp [pd] at *; omega
  | succ N ih =>
    intro hN h
    rw [pd] at h
    rcases pr_mul hp h with h | h
    · exact ih (by omega) h
    · have := Nat.le_of_dvd (by omega) h; omega
theorem fermat {p b : Nat} (hp : Pr p) (hb : b % p ≠ 0) : b ^ (p - 1) % p = 1 := by
  have h2 := hp.1
  have hnd : ¬ p ∣ b := fun h => hb (Nat.mod_eq_zero_of_dvd h)
  have hne : ∀ i, i < p - 1 → b * (i + 1) % p ≠ 0 := by
    intro i hi h0
    rcases pr_mul hp (Nat.dvd_of_mod_eq_zero h0) with h | h
    · exact hnd h
    · have := Nat.le_of_dvd (by omega) h; omega
  have hlt : ∀ i, b * (i + 1) % p < p := fun i => Nat.mod_lt _ (by omega)
  have hperm := pd_perm (p - 1) (fun i => b * (i + 1) % p - 1) (fun i hi => by have := hne i hi; have := hlt i; show b * (i + 1) % p - 1 < p - 1; omega)
    (fun i j hij hj he => by
      have h1 := hne i (by omega)
      have h3 := hne j hj
      have he : b * (i + 1) % p - 1 = b * (j + 1) % p - 1 := he
      have h4 : b * (i + 1) % p = b * (j + 1) % p := by omega
      have h5 : p ∣ b * (j + 1) - b * (i + 1) := Nat.dvd_of_mod_eq_zero (Nat.sub_mod_eq_zero_of_mod_eq h4.symm)
      rw [← Nat.mul_sub] at h5
      rcases pr_mul hp h5 with h | h
      · exact hnd h
      · have := Nat.le_of_dvd (by omega) h; omega) (fun i => i + 1)
  rw [pd_cong (h := fun i => b * (i + 1) % p) (p - 1) (fun i hi => by have := hne i hi; show b * (i + 1) % p - 1 + 1 = _; omega)] at hperm
  have hm := pd_mod b p (p - 1)
  rw [hperm] at hm
  obtain ⟨G, hG⟩ : ∃ G, G = pd (fun i => i + 1) (p - 1) := ⟨_, rfl⟩
  have hfree := pd_free hp (p - 1) (by omega)
  rw [← hG] at hm hfree
  have hpos : 0 < b ^ (p - 1) := Nat.pow_pos (by rcases Nat.eq_zero_or_pos b with h | h; · subst h; simp at hb
                                                 · exact h)
  have h5 : p ∣ b ^ (p - 1) * G - 1 * G := Nat.dvd_of_mod_eq_zero (Nat.sub_mod_eq_zero_of_mod_eq (by rw [Nat.one_mul]; exact hm.symm))
  rw [← Nat.sub_mul] at h5
  rcases pr_mul hp h5 with h | h
  · obtain ⟨c, hc⟩ := h
    have : b ^ (p - 1) = p * c + 1 := by omega
    rw [this, Nat.mul_add_mod, Nat.mod_eq_of_lt (by omega)]
  · exact absurd h hfree
theorem prime_passes {n b t d : Nat} (hp : Pr n) (hb : b % n ≠ 0) (hd : n - 1 = 2 ^ t * d) : b ^ d % n = 1 ∨ ∃ i, i < t ∧ b ^ (d * 2 ^ i) % n = n - 1 :=
  miller hp t (by rw [Nat.mul_comm, ← hd]; exact fermat hp hb)
theorem pow_beside (v h : Int) : ∀ m : Nat, ∃ c : Int, (v + h) ^ (m + 1) = v ^ (m + 1) + ((m : Int) + 1) * v ^ m * h + h * h * c := by
  intro m
  induction m with
  | zero => exact ⟨0, by simp [Int.pow_succ]⟩
  | succ m ih =>
    obtain ⟨c, hc⟩ := ih
    refine ⟨v * c + ((m : Int) + 1) * v ^ m + h * c, ?_⟩
    rw [Int.pow_succ, hc, Int.pow_succ v (m + 1), Int.pow_succ v m]
    push_cast
    grind
theorem pow_lift {u v : Int} {p j : Nat} (hp : 1 ≤ p) (hj : 1 ≤ j) (h : ((p : Int) ^ j) ∣ u - v) : ((p : Int) ^ (j + 1)) ∣ u ^ p - v ^ p := by
  obtain ⟨t, ht⟩ := h
  obtain ⟨m, rfl⟩ : ∃ m, p = m + 1 := ⟨p - 1, by omega⟩
  obtain ⟨i, rfl⟩ : ∃ i, j = i + 1 := ⟨j - 1, by omega⟩
  obtain ⟨P, hP⟩ : ∃ P : Int, P = ((m + 1 : Nat) : Int) := ⟨_, rfl⟩
  rw [← hP] at ht ⊢
  obtain ⟨c, hc⟩ := pow_beside v (P ^ (i + 1) * t) m
  have hu : u = v + P ^ (i + 1) * t := by omega
  have hP' : (m : Int) + 1 = P := by rw [hP]; simp
  rw [hu, hc, hP']
  refine ⟨v ^ m * t + P ^ i * t * t * c, ?_⟩
  rw [Int.pow_succ P (i + 1), Int.pow_succ P i]
  grind
def pv : List Int → Int → Int
  | [], _ => 0
  | a :: l, x => a + x * pv l x
def dv : List Int → Int → Int
  | [], _ => 0
  | _ :: l, x => pv l x + x * dv l x
def dl : Nat → List Int → List Int
  | _, [] => []
  | k, a :: l => (k : Int) * a :: dl (k + 1) l
end Go.Proofs.YtcnfhndejkngkaaGreatDoor
end
