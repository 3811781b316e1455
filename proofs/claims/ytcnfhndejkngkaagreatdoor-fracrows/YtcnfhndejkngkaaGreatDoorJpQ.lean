import Derived.Test.YtcnfhndejkngkaaGreatDoorJpK
import Derived.Scope
import Derived.Maps.AppendAt
import Derived.WalkSmall
section
set_option linter.unusedSimpArgs false
set_option linter.unusedVariables false
set_option maxRecDepth 100000
namespace Go.Proofs.YtcnfhndejkngkaaGreatDoor
open Go.RowKit
section
variable {F : Fence} {n : Nat} {P : Program} {Q : Exit → Act → World → Prop} {a : Act} {w : World}
theorem stepR_scope {b : Frame} {k : List Item} {cs : List Frame} {c : Code} : step P (lone (b.atR a (.code (.scope c) :: k)) cs w) = .next (lone (b.atR a (.code c :: .inScope c :: k)) cs w) :=
  step_lone_go (by simp [stepG, stepG.exec, Frame.atR])
theorem stepR_inScope {b : Frame} {k : List Item} {cs : List Frame} {c : Code} : step P (lone (b.atR a (.inScope c :: k)) cs w) = .next (lone (b.atR a k) cs w) :=
  step_lone_go (by simp [stepG, stepG.exec, Frame.atR])
theorem wpIn_scope_plain {c : Code} (h : c.wpIn F n P (Exit.noGoto Q) a w) : (Code.scope c).wpIn F n P Q a w := by
  intro b k cs hro hb hr
  have h0 : (lone (b.atR a (.code (.scope c) :: k)) cs w).fenced P F := fenced_calm hb hr rfl
  obtain ⟨e, a₁, w₁, hq, harr⟩ := h b (.inScope c :: k) cs hro hb hr
  cases e with
  | goto l => exact hq.elim
  | normal => exact ⟨.normal, a₁, w₁, hq, .head h0 stepR_scope (StepsIn.trans harr (.one (fenced_calm hb hr rfl) stepR_inScope))⟩
  | exit id =>
    have hx : exitTo id (.inScope c :: k) = exitTo id k := by simp [exitTo]
    exact ⟨.exit id, a₁, w₁, hq, fun k' hk => .head h0 stepR_scope (harr.1 k' (by rw [hx]; exact hk)),
      fun hr' hk => let ⟨k₁, h1, h2⟩ := harr.2 hr' (by rw [hx]; exact hk); ⟨k₁, h1, .head h0 stepR_scope h2⟩⟩
  | ret => exact ⟨_, a₁, w₁, hq, .of_steps (.one h0 stepR_scope) harr⟩
  | panic ch => exact ⟨_, a₁, w₁, hq, .of_steps (.one h0 stepR_scope) harr⟩
  | outgrown => exact ⟨_, a₁, w₁, hq, .of_steps (.one h0 stepR_scope) harr⟩
end
end Go.Proofs.YtcnfhndejkngkaaGreatDoor
end

section
set_option linter.unusedSimpArgs false
set_option linter.unusedVariables false
set_option maxRecDepth 100000
namespace Go.Proofs.YtcnfhndejkngkaaGreatDoor
open Go.RowKit
attribute [local go_sem] Oper.semAt_some
theorem Tryz.infoInt : (Tryz.prog.info? 3).map (fun i => (i.zero, i.size, i.bytes)) = some (some (.int .i64 0), 1, 8) := by kernel_rfl
def ints (l : List Int) : List Value := l.map (Value.int .i64)
def pr10 : List Int := [2, 3, 5, 7, 11, 13, 17, 19, 23, 29]
def bef (m : Nat) : List Int := pr10.takeWhile (fun p => decide (p < (m : Int)))
def befPassed (m i : Nat) : Prop := ∀ j, j < i → (bef m).getD j 0 * (bef m).getD j 0 ≤ m ∧ (m : Int) % (bef m).getD j 0 ≠ 0
instance (m i : Nat) : Decidable (befPassed m i) := by unfold befPassed; infer_instance
theorem bef_len : ∀ m, m < 30 → (bef m).length ≤ 9 := by decide +kernel
theorem bef_el0 : ∀ m, m < 30 → ∀ i, i < 9 → i < (bef m).length → 2 ≤ (bef m).getD i 0 ∧ (bef m).getD i 0 ≤ 23 := by decide +kernel
theorem bef_yield0 : ∀ m, m < 30 → ∀ i, i < 10 → (2 ≤ m ∧ i ≤ (bef m).length ∧ befPassed m i ∧ (i = (bef m).length ∨ (m : Int) < (bef m).getD i 0 * (bef m).getD i 0)) → (bef m ++ [(m : Int)]).isPrefixOf pr10 = true ∧ (m = 29 ∨ bef (m + 1) = bef m ++ [(m : Int)]) := by decide +kernel
theorem bef_go0 : ∀ m, m < 30 → ∀ i, i < 10 → (2 ≤ m ∧ i < (bef m).length ∧ befPassed m i ∧ ¬ ((m : Int) < (bef m).getD i 0 * (bef m).getD i 0) ∧ (m : Int) % (bef m).getD i 0 = 0) → m < 29 ∧ bef (m + 1) = bef m := by decide +kernel
theorem row_kept {B e n : Nat} {v : Value} {W W' : World} {xs : List Value} (h : W.ownsRow B e 1 v n xs) (k : ∀ g, v.ownBlock = some g → W'.heap[g]? = W.heap[g]?) : W'.ownsRow B e 1 v n xs := by
  obtain ⟨h1, h2⟩ := h
  refine ⟨h1, ?_⟩
  rcases h2 with h3 | ⟨g, cap, cur, h3, h4, h5, h6⟩
  · exact .inl h3
  · exact .inr ⟨g, cap, cur, h3, h4, (k g (by rw [h3]; rfl)).trans h5, h6⟩
set_option maxHeartbeats 1000000 in
theorem rising_ten (F : Fence) (n : Nat) (hF : F.fn 177) (hro : F.round = none) (hn : 1 ≤ n) : YieldsO F n Tryz.prog 177 pr10 := by
  intro l J Jx W hJ hY hend h0
  obtain ⟨i0, hi, hz0, hz1, hz2⟩ := info_parts Tryz.infoInt
  have HI : Hid (Tryz.prog.info? 3 = some i0 ∧ i0.zero = some (.int .i64 0) ∧ i0.size = 1 ∧ i0.bytes = 8) := ⟨hi, hz0, hz1, hz2⟩
  have HY : Hid (∀ o pre x W1, J o pre W1 → (∀ g, o = some g → W.heap.size ≤ g ∧ g < W1.heap.size) → W.heap.size ≤ W1.heap.size → pre ++ [x] <+: pr10 → YieldAt F (n - 1) Tryz.prog l #[.int .i64 x] W1 fun e W' =>
      (e = .returned (.bool true) ∧ J o (pre ++ [x]) W' ∧ W1.heap.size ≤ W'.heap.size ∧ ∀ g, o = some g → W'.heap[g]? = W1.heap[g]?) ∨ (e = .returned (.bool false) ∧ Jx o (pre ++ [x]) W')) := hY
  have HJ : Hid (AbO J) := hJ
  have HEnd : Hid (∀ o W1, J o pr10 W1 → False) := hend
  have H0 : Hid (J none [] W) := h0
  clear hi hz0 hz1 hz2 hY hJ hend h0
  refine callsIn_of_wp Tryz.func177 rfl hF ?_ hro
  simp only [Tryz.ntmps177, List.size_toArray, List.length_cons, List.length_nil, Nat.reduceAdd, Nat.reduceSub, Array.replicate_succ, Array.replicate_zero, List.push_toArray, List.append_toArray, List.nil_append, List.cons_append]
  refine wpIn_scope_plain ?_
  gi_wp2
  refine wpIn_label ?_
  gi_wp2
  gi_loopw [2, 3] (fun bv nv wr => ∃ (a : Option Addr) (c k m : Nat), bv = .slice a k c ∧ nv = .int .i64 m ∧ 2 ≤ m ∧ m ≤ 29 ∧ k ≤ 9 ∧ Hid (k = (bef m).length ∧ J (Value.slice a k c).ownBlock (bef m) wr ∧ W.heap.size ≤ wr.heap.size ∧ wr.ownsRow W.heap.size 3 1 (.slice a k c) k (ints (bef m)))) (fun _ nv _ => 30 - (intOf nv).toNat)
  case atStart => exact ⟨none, 0, 0, 2, rfl, rfl, by omega, by omega, by omega, rfl, H0.out, Nat.le_refl _, World.ownsRow_nil _ _ _ _⟩
  case round =>
    obtain ⟨wo, hwo⟩ : ∃ wo, wo = wr := ⟨_, rfl⟩
    subst hwo
    obtain ⟨a, c, k, m, rfl, rfl, hm1, hm2, hk3, HR⟩ := hrel
    obtain ⟨hk, hJm, hzo, hrow⟩ := HR.out
    have HKE : Hid (k = (bef m).length) := hk
    have HJm : Hid (J (Value.slice a k c).ownBlock (bef m) wo) := hJm
    have HRow : Hid (wo.ownsRow W.heap.size 3 1 (.slice a k c) k (ints (bef m))) := hrow
    clear hk hJm hrow HR
    gi_wp2
    gi_loopw [10] (fun iv wx => ∃ i : Nat, i ≤ k ∧ iv = .int .i64 i ∧ Hid (wx = wo ∧ befPassed m i)) (fun iv _ => k - (intOf iv).toNat)
    case atStart => exact ⟨0, Nat.zero_le _, rfl, rfl, fun j hj => absurd hj (Nat.not_lt_zero _)⟩
    case round =>
      obtain ⟨i, hi, rfl, HRi⟩ := hrel
      obtain ⟨hw, hpass⟩ := HRi.out
      subst hw
      have HPs : Hid (befPassed m i) := hpass
      clear hpass HRi
      by_cases hik : i < k
      · obtain ⟨g, rfl⟩ : ∃ g, a = some ⟨g, 0, none⟩ := by
          rcases HRow.out.2 with ⟨_, h⟩ | ⟨g, _, _, h, _⟩
          · omega
          · simp only [Value.slice.injEq] at h; exact ⟨g, h.1⟩
        obtain ⟨p, hp⟩ : ∃ p, p = (bef m).getD i 0 := ⟨_, rfl⟩
        have hcell : wr.cell? ⟨g, i, none⟩ = some (.int .i64 p) := by
          rw [HRow.out.cellAt i (by omega), hp, ints, List.getElem?_map, List.getD_eq_getElem?_getD, List.getElem?_eq_getElem (by have := HKE.out; omega)]
          rfl
        obtain ⟨hp1, hp2⟩ := bef_el0 m (by omega) i (by omega) (by have := HKE.out; omega)
        rw [← hp] at hp1 hp2
        have HP : Hid (p = (bef m).getD i 0) := hp
        clear hp
        have hpp : 0 ≤ p * p ∧ p * p ≤ 529 := by
          have h1 := Int.mul_le_mul hp2 hp2 (by omega) (by omega)
          have h2 := Int.mul_nonneg (show 0 ≤ p by omega) (show 0 ≤ p by omega)
          omega
        have hp0 : (p == 0) = false := beq_eq_false_iff_ne.2 (by omega)
        by_cases hsq : (m : Int) < p * p
        · have hsqb : decide ((m : Int) < p * p) = true := decide_eq_true hsq
          obtain ⟨hpre, hnext⟩ := bef_yield0 m (by omega) i (by omega) ⟨hm1, by have := HKE.out; omega, HPs.out, .inr (by rw [← HP.out]; exact hsq)⟩
          have hpre := List.isPrefixOf_iff_prefix.1 hpre
          have HNx : Hid (m = 29 ∨ bef (m + 1) = bef m ++ [(m : Int)]) := hnext
          obtain ⟨fn, tmps, assign, body, hy, hR⟩ := HY.out _ (bef m) m wr HJm.out (fun g' e => HRow.out.lt g' e) (by omega) hpre
          clear hpre hnext
          gi_wp2
          refine hR.mono ?_
          rintro e W' (⟨rfl, hJ', zk, hk'⟩ | ⟨rfl, hJx'⟩)
          · have row' := row_kept HRow.out hk'
            have ROW : Hid (W'.ownsRow W.heap.size 3 1 (.slice (some ⟨g, 0, none⟩) k c) k (ints (bef m))) := row'
            have JJ : Hid (J (Value.slice (some ⟨g, 0, none⟩) k c).ownBlock (bef m ++ [(m : Int)]) W') := hJ'
            have hm7 : m ≠ 29 := by
              rintro rfl
              exact HEnd.out _ W' hJ'
            have hnx : bef (m + 1) = bef m ++ [(m : Int)] := by
              rcases HNx.out with h | h
              · exact absurd h hm7
              · exact h
            have HNX : Hid (bef (m + 1) = bef m ++ [(m : Int)]) := hnx
            clear row' hJ' hk' hnx HNx hR hy
            gi_wp2_with (gi_at_builtin; refine wpListIn_append_own_at _ rfl _ _ 65 rfl W.heap.size 3 i0 (.int .i64 0) 1 8 Tryz.underlying65 HI.out.1 HI.out.2.1 HI.out.2.2.1 HI.out.2.2.2 rfl (by decide) (.slice (some ⟨g, 0, none⟩) k c) k (ints (bef m)) rfl (ROW.out.alloc _) ⟨W'.heap.size, 0, none⟩ 1 1 [.int .i64 m] rfl rfl (cell_one_new _ _ _) (by simp [Value.oneCell']) (by simp only [maxLen]; omega) (by omega) (by simp; omega) ?_; intro v' w1 hown' hgrow _ hob; obtain ⟨g', cap', rfl⟩ := ownsRow_succ hown')
            have hJ1 : J (Value.slice (some ⟨g', 0, none⟩) (k + 1) cap').ownBlock (bef m ++ [(m : Int)]) w1 := HJ.out _ _ _ _ _ (HJ.out.alloc _ JJ.out) hgrow (by
              rcases hob with h | h
              · exact .inl h
              · exact .inr ⟨_, h, Nat.le_refl _⟩)
            have zg := hgrow.size
            simp at zg
            have hrow1 : w1.ownsRow W.heap.size 3 1 (.slice (some ⟨g', 0, none⟩) (k + 1) cap') (k + 1) (ints (bef (m + 1))) := by
              rw [HNX.out, ints, List.map_append]; exact hown'
            have HJ1 : Hid (J (Value.slice (some ⟨g', 0, none⟩) (k + 1) cap').ownBlock (bef (m + 1)) w1) := by rw [HNX.out]; exact hJ1
            have HR1 : Hid (w1.ownsRow W.heap.size 3 1 (.slice (some ⟨g', 0, none⟩) (k + 1) cap') (k + 1) (ints (bef (m + 1)))) := hrow1
            have hk1 : k + 1 ≤ 9 := by
              have h1 := bef_len (m + 1) (by omega)
              rw [HNX.out, List.length_append] at h1
              have := HKE.out
              simp at h1; omega
            clear hJ1 hrow1 hown' hgrow hob
            gi_wp2
            go_roundw
            case rel =>
              refine ⟨some ⟨g', 0, none⟩, cap', k + 1, m + 1, rfl, by go_num, by omega, by omega, hk1, ?_, HJ1.out, by omega, HR1.out⟩
              rw [HNX.out, List.length_append, ← HKE.out]; rfl
            case measure => simp [intOf]; omega
          · gi_wp2
            rw [Exit.noGoto_ret]
            exact bodyPost_ret (results_none rfl _ _ _) rfl ⟨⟨_, rfl⟩, _, _, hJx'⟩
        · have hsqb : decide ((m : Int) < p * p) = false := decide_eq_false hsq
          by_cases hmod : (m : Int) % p = 0
          · obtain ⟨hm7, hnx⟩ := bef_go0 m (by omega) i (by omega) ⟨hm1, by have := HKE.out; omega, HPs.out, by rw [← HP.out]; exact hsq, by rw [← HP.out]; exact hmod⟩
            have hmb : (((m : Int) % p) == 0) = true := by rw [hmod]; rfl
            have HNX : Hid (bef (m + 1) = bef m) := hnx
            clear hnx hmod hsq
            gi_wp2
            go_roundw
            case rel =>
              refine ⟨some ⟨g, 0, none⟩, c, k, m + 1, rfl, by go_num, by omega, by omega, hk3, ?_, ?_, by omega, ?_⟩
              · rw [HNX.out]; exact HKE.out
              · rw [HNX.out]; exact HJm.out
              · rw [HNX.out]; exact HRow.out
            case measure => simp [intOf]; omega
          · have hmb : (((m : Int) % p) == 0) = false := beq_eq_false_iff_ne.2 hmod
            have HN : Hid (befPassed m (i + 1)) := by
              intro j hj
              by_cases hji : j = i
              · subst hji; rw [← HP.out]; exact ⟨by omega, hmod⟩
              · exact HPs.out j (by omega)
            clear hmod hsq
            gi_wp2
            go_roundw
            case rel => exact ⟨i + 1, by omega, by go_num, by first | rfl | trivial, HN.out⟩
            case measure => simp [intOf]; omega
      · obtain rfl : i = k := by omega
        obtain ⟨hpre, hnext⟩ := bef_yield0 m (by omega) i (by omega) ⟨hm1, by have := HKE.out; omega, HPs.out, .inl HKE.out⟩
        have hpre := List.isPrefixOf_iff_prefix.1 hpre
        have HNx : Hid (m = 29 ∨ bef (m + 1) = bef m ++ [(m : Int)]) := hnext
        obtain ⟨fn, tmps, assign, body, hy, hR⟩ := HY.out _ (bef m) m wr HJm.out (fun g' e => HRow.out.lt g' e) (by omega) hpre
        clear hpre hnext
        gi_wp2
        refine hR.mono ?_
        rintro e W' (⟨rfl, hJ', zk, hk'⟩ | ⟨rfl, hJx'⟩)
        · have row' := row_kept HRow.out hk'
          have ROW : Hid (W'.ownsRow W.heap.size 3 1 (.slice a i c) i (ints (bef m))) := row'
          have JJ : Hid (J (Value.slice a i c).ownBlock (bef m ++ [(m : Int)]) W') := hJ'
          have hm7 : m ≠ 29 := by
            rintro rfl
            exact HEnd.out _ W' hJ'
          have hnx : bef (m + 1) = bef m ++ [(m : Int)] := by
            rcases HNx.out with h | h
            · exact absurd h hm7
            · exact h
          have HNX : Hid (bef (m + 1) = bef m ++ [(m : Int)]) := hnx
          clear row' hJ' hk' hnx HNx hR hy
          gi_wp2_with (gi_at_builtin; refine wpListIn_append_own_at _ rfl _ _ 65 rfl W.heap.size 3 i0 (.int .i64 0) 1 8 Tryz.underlying65 HI.out.1 HI.out.2.1 HI.out.2.2.1 HI.out.2.2.2 rfl (by decide) (.slice a i c) i (ints (bef m)) rfl (ROW.out.alloc _) ⟨W'.heap.size, 0, none⟩ 1 1 [.int .i64 m] rfl rfl (cell_one_new _ _ _) (by simp [Value.oneCell']) (by simp only [maxLen]; omega) (by omega) (by simp; omega) ?_; intro v' w1 hown' hgrow _ hob; obtain ⟨g', cap', rfl⟩ := ownsRow_succ hown')
          have hJ1 : J (Value.slice (some ⟨g', 0, none⟩) (i + 1) cap').ownBlock (bef m ++ [(m : Int)]) w1 := HJ.out _ _ _ _ _ (HJ.out.alloc _ JJ.out) hgrow (by
            rcases hob with h | h
            · exact .inl h
            · exact .inr ⟨_, h, Nat.le_refl _⟩)
          have zg := hgrow.size
          simp at zg
          have hrow1 : w1.ownsRow W.heap.size 3 1 (.slice (some ⟨g', 0, none⟩) (i + 1) cap') (i + 1) (ints (bef (m + 1))) := by
            rw [HNX.out, ints, List.map_append]; exact hown'
          have HJ1 : Hid (J (Value.slice (some ⟨g', 0, none⟩) (i + 1) cap').ownBlock (bef (m + 1)) w1) := by rw [HNX.out]; exact hJ1
          have HR1 : Hid (w1.ownsRow W.heap.size 3 1 (.slice (some ⟨g', 0, none⟩) (i + 1) cap') (i + 1) (ints (bef (m + 1)))) := hrow1
          have hk1 : i + 1 ≤ 9 := by
            have h1 := bef_len (m + 1) (by omega)
            rw [HNX.out, List.length_append] at h1
            have := HKE.out
            simp at h1; omega
          clear hJ1 hrow1 hown' hgrow hob
          gi_wp2
          go_roundw
          case rel =>
            refine ⟨some ⟨g', 0, none⟩, cap', i + 1, m + 1, rfl, by go_num, by omega, by omega, hk1, ?_, HJ1.out, by omega, HR1.out⟩
            rw [HNX.out, List.length_append, ← HKE.out]; rfl
          case measure => simp [intOf]; omega
        · gi_wp2
          rw [Exit.noGoto_ret]
          exact bodyPost_ret (results_none rfl _ _ _) rfl ⟨⟨_, rfl⟩, _, _, hJx'⟩
end Go.Proofs.YtcnfhndejkngkaaGreatDoor
end

section
set_option linter.unusedVariables false
set_option maxRecDepth 100000
namespace Go.Proofs.YtcnfhndejkngkaaGreatDoor
def Pr (n : Nat) : Prop := 2 ≤ n ∧ ∀ d, d ∣ n → d = 1 ∨ d = n
theorem pr_divisor (n : Nat) (h : 2 ≤ n) : ∃ p, Pr p ∧ p ∣ n := by
  induction n using Nat.strongRecOn with
  | ind n ih =>
    by_cases hp : ∃ d, d ∣ n ∧ d ≠ 1 ∧ d ≠ n
    · obtain ⟨d, hd, h1, hn⟩ := hp
      have hle : d ≤ n := Nat.le_of_dvd (by omega) hd
      have h0 : d ≠ 0 := by rintro rfl; have := Nat.eq_zero_of_zero_dvd hd; omega
      obtain ⟨p, hp, hpd⟩ := ih d (by omega) (by omega)
      exact ⟨p, hp, Nat.dvd_trans hpd hd⟩
    · refine ⟨n, ⟨h, fun d hd => ?_⟩, Nat.dvd_refl _⟩
      by_cases h1 : d = 1
      · exact .inl h1
      · by_cases h2 : d = n
        · exact .inr h2
        · exact absurd ⟨d, hd, h1, h2⟩ hp
theorem pr_mul {p a b : Nat} (hp : Pr p) (h : p ∣ a * b) : p ∣ a ∨ p ∣ b := by
  rcases hp.2 (Nat.gcd p a) (Nat.gcd_dvd_left ..) with hg | hg
  · exact .inr (Nat.Coprime.dvd_of_dvd_mul_left hg h)
  · refine .inl ?_
    have := Nat.gcd_dvd_right p a
    rwa [hg] at this
theorem pr_pow {p a : Nat} (hp : Pr p) (k : Nat) (h : p ∣ a ^ k) : p ∣ a := by
  induction k with
  | zero =>
    rw [Nat.pow_zero] at h
    have := Nat.le_of_dvd (by decide) h
    have := hp.1
    omega
  | succ k ih =>
    rw [Nat.pow_succ] at h
    rcases pr_mul hp h with h | h
    · exact ih h
    · exact h
theorem pow_mod_one {a n N : Nat} (hn : 1 < n) (h : a ^ N % n = 1) (k : Nat) : a ^ (N * k) % n = 1 := by
  rw [Nat.pow_mul, Nat.pow_mod, h, Nat.one_pow, Nat.mod_eq_of_lt hn]
theorem order_dvd {a n d k : Nat} (hn : 1 < n) (hd : 0 < d) (h : a ^ d % n = 1) (hl : ∀ e, 0 < e → e < d → a ^ e % n ≠ 1) (hk : a ^ k % n = 1) : d ∣ k := by
  have h1 : a ^ k = a ^ (d * (k / d)) * a ^ (k % d) := by
    rw [← Nat.pow_add, Nat.div_add_mod]
  have h2 : a ^ (k % d) % n = 1 := by
    have h3 : a ^ k % n = a ^ (k % d) % n := by
      rw [h1, Nat.mul_mod, pow_mod_one hn h, Nat.one_mul, Nat.mod_mod]
    omega
  by_cases h0 : k % d = 0
  · exact Nat.dvd_of_mod_eq_zero h0
  · exact absurd h2 (hl _ (by omega) (Nat.mod_lt _ hd))
theorem pigeon (N : Nat) : ∀ f : Nat → Nat, (∀ i, i < N → f i < N) → (∀ i j, i < j → j < N → f i ≠ f j) → ∀ b, b < N → ∃ i, i < N ∧ f i = b := by
  induction N with
  | zero => intro f _ _ b hb; omega
  | succ N ih =>
    intro f hf hi b hb
    by_cases hlast : ∃ i, i < N + 1 ∧ f i = N
    · obtain ⟨k, hk, hkN⟩ := hlast
      -- what is at k and at N is swapped
      have hg : ∀ i, i < N → (if i = k then f N else f i) < N := by
        intro i hlt
        split
        · have h1 := hf N (by omega)
          have h2 : f N ≠ N := by
            intro h
            rcases Nat.lt_or_ge k N with h3 | h3
            · exact hi k N h3 (by omega) (by omega)
            · omega
          omega
        · have h1 := hf i (by omega)
          have h2 : f i ≠ N := by
            intro h
            rcases Nat.lt_trichotomy i k with h3 | h3 | h3
            · exact hi i k h3 hk (by omega)
            · contradiction
            · exact hi k i h3 (by omega) (by omega)
          omega
      have hgi : ∀ i j, i < j → j < N → (if i = k then f N else f i) ≠ (if j = k then f N else f j) := by
        intro i j hij hj
        split <;> split
        · omega
        · exact fun h => hi j N (by omega) (by omega) h.symm
        · exact hi i N (by omega) (by omega)
        · exact hi i j hij (by omega)
      by_cases hbN : b = N
      · exact ⟨k, hk, by omega⟩
      · obtain ⟨i, hlt, he⟩ := ih (fun i => if i = k then f N else f i) hg hgi b (by omega)
        split at he
        · exact ⟨N, by omega, he⟩
        · exact ⟨i, by omega, he⟩
    · exfalso
      have h1 : ∀ i, i < N + 1 → f i < N := by
        intro i hlt
        have h1 := hf i hlt
        have h2 : f i ≠ N := fun h => hlast ⟨i, hlt, h⟩
        omega
      rcases Nat.eq_zero_or_pos N with h0 | h0
      · have := h1 0 (by omega); omega
      · obtain ⟨i, hlt, he⟩ := ih f (fun i hlt => h1 i (by omega)) (fun i j h h' => hi i j h (by omega)) (f N) (h1 N (by omega))
        exact hi i N hlt (by omega) he
theorem root_one {n y : Nat} (hp : Pr n) (hy : y < n) (h : y * y % n = 1) : y = 1 ∨ y = n - 1 := by
  have h2 := hp.1
  have hy0 : y ≠ 0 := by rintro rfl; simp at h
  have h3 : n ∣ (y - 1) * (y + 1) := by
    have e : (y - 1) * (y + 1) = y * y - 1 := by
      obtain ⟨z, rfl⟩ : ∃ z, y = z + 1 := ⟨y - 1, by omega⟩
      simp only [Nat.add_sub_cancel]
      rw [show (z + 1) * (z + 1) = z * (z + 1 + 1) + 1 by grind]
      omega
    rw [e]
    have := Nat.div_add_mod (y * y) n
    exact ⟨y * y / n, by omega⟩
  rcases pr_mul hp h3 with h4 | h4
  · have := Nat.eq_zero_of_dvd_of_lt h4 (by omega); omega
  · have := Nat.le_of_dvd (by omega) h4; omega
theorem miller {n b d : Nat} (hp : Pr n) : ∀ s, b ^ (d * 2 ^ s) % n = 1 → b ^ d % n = 1 ∨ ∃ i, i < s ∧ b ^ (d * 2 ^ i) % n = n - 1 := by
  intro s
  induction s with
  | zero => intro h; simp at h; exact .inl h
  | succ s ih =>
    intro h
    have hlt : b ^ (d * 2 ^ s) % n < n := Nat.mod_lt _ (by have := hp.1; omega)
    have e : b ^ (d * 2 ^ s) % n * (b ^ (d * 2 ^ s) % n) % n = 1 := by
      rw [← Nat.mul_mod, ← Nat.pow_add, ← h]
      congr 2
      rw [Nat.pow_succ, ← Nat.mul_assoc]; omega
    rcases root_one hp hlt e with h1 | h1
    · rcases ih h1 with h2 | ⟨i, hi, h2⟩
      · exact .inl h2
      · exact .inr ⟨i, by omega, h2⟩
    · exact .inr ⟨s, by omega, h1⟩
end Go.Proofs.YtcnfhndejkngkaaGreatDoor
end
