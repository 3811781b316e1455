/- The program: leastPower; slices.Repeat of one number. -/
import Derived.Test.YtmifenflbaohnaaDoorJnN
import Derived.Test.YtmifenflbaohnaaDoorJnV
import Derived.Test.YtmifenflbaohnaaDoorCgG
set_option linter.unusedSimpArgs false
set_option linter.unusedVariables false
set_option maxRecDepth 100000
namespace Go.Proofs.YtmifenflbaohnaaDoor
open Go.RowKit

def lpB (x : Nat) : Bool := x == 0 || decide (bits .and .i64 (x : Int) (-(x : Int)) = ((PT.q2 11 x : Nat) : Int))
theorem lp_all : (List.range 2001).all lpB = true := by decide +kernel
theorem lp_at {x : Nat} (h : 1 ≤ x) (h2 : x ≤ 2000) : bits .and .i64 (x : Int) (-(x : Int)) = (PT.p2 x : Int) := by
  have := List.all_eq_true.1 lp_all x (by rw [List.mem_range]; omega)
  unfold lpB at this
  have e : (x == 0) = false := beq_eq_false_iff_ne.2 (by omega)
  rw [e, Bool.false_or, decide_eq_true_eq] at this
  rw [this, PT.q2_p2 11 x (by omega) (by omega)]

set_option maxHeartbeats 400000 in
theorem leastPower_any (x : Nat) (w : World) (h1 : 1 ≤ x) (h2 : x ≤ 2000) :
    Calls Tryd.prog 53 #[.int .i64 (x : Int)] w fun e w' => e = .returned (.int .i64 (PT.p2 x : Int)) ∧ w' = w := by
  have h := lp_at h1 h2
  have hw : IntKind.i64.wrap (-(x : Int)) = -(x : Int) := by rw [IntKind.wrap_i64]; omega
  go_enter Tryd.func53, Tryd.ntmps53
  go_wp2
  go_ret
  exact ⟨rfl, rfl⟩

theorem splice_rep (x y : Value) (n D K : Nat) (h : K ≤ D) : splice (List.replicate n x ++ List.replicate D y) n (List.replicate K x) = List.replicate (n + K) x ++ List.replicate (D - K) y := by
  unfold splice
  rw [List.take_left' (by simp), List.length_replicate, List.drop_append, List.drop_eq_nil_of_le (by simp), List.nil_append, List.length_replicate, List.drop_replicate, ← List.append_assoc, List.replicate_append_replicate, show D - (n + K - n) = D - K by omega]

set_option maxRecDepth 100000 in
set_option maxHeartbeats 2000000 in
theorem Repeat_one (x : Int) (M bx : Nat) (w : World) (h1 : 1 ≤ M) (h2 : M ≤ 2000) (hb : Cl bx [.int .i64 x] 3 w) :
    Calls Tryd.prog 51 #[.slice (some ⟨bx, 0, none⟩) 1 1, .int .i64 (M : Int)] w fun e w' => ∃ g, e = .returned (.slice (some ⟨g, 0, none⟩) M M) ∧ w.heap.size ≤ g ∧ Cl g (List.replicate M (.int .i64 x)) 3 w' ∧ Below w.heap.size w w' := by
  obtain ⟨i0, hi, hz0, hz1, hz2⟩ := info_parts Tryd.infoInt
  have HM : Hid (∀ w, Calls Tryd.prog 60 #[.int .u64 1, .int .u64 (M : Int)] w fun e w' => e = .returned (.tuple #[.int .u64 0, .int .u64 (M : Int)]) ∧ w' = w) := fun w => by
    have := bitsMul_any 1 M (by omega) (by omega) w
    rw [Nat.div_eq_of_lt (by omega), Nat.mod_eq_of_lt (by omega), Nat.one_mul] at this
    exact this
  have HLc : Hid (Cl bx [.int .i64 x] 3 w) := hb
  clear hb
  go_enter Tryd.func51, Tryd.ntmps51
  go_wp2_with (first | (go_at_call 60; refine (HM.out _).mono ?_; rintro e w' ⟨rfl, hw'⟩; rw [hw']; clear hw' w') | (at_make; refine wpList_make_full _ rfl _ _ 36 rfl w.heap.size 3 i0 (.int .i64 0) 1 Tryd.underlying36 hi hz0 hz1 .i64 .i64 _ _ M rfl rfl (by omega) (by omega) (by rw [hz2]; omega) (by unfold maxLen; omega) (Nat.le_refl _) ?_))
  intro w1 hmk hb1
  have C1 : Hid (Cl w.heap.size (List.replicate M (.int .i64 0)) 3 w1) := Cl.of_make (by omega) hmk
  have KB1 : Hid (Below w.heap.size w w1) := ⟨hb1.os, hb1.tape, hb1.output, hb1.size, fun k hk => hb1.block k hk (by simp)⟩
  have HSrc : Hid (∀ j v, (List.replicate 1 (Value.int .i64 x))[j]? = some v → w1.cell? ((⟨bx, 0, none⟩ : Addr).add j) = some v) := fun j v hj => own_news (HLc.out.below KB1.out) j v hj
  have HIn : Hid ((List.replicate 1 (Value.int .i64 x)).length = Nat.min 1 M) := by show _ = min 1 M; simp; omega
  clear hmk hb1 HLc
  go_wp2_with ((refine wpList_copy_splice rfl _ _ 36 36 rfl 3 Tryd.underlying36 Tryd.sizeInt _ _ _ _ _ _ rfl rfl w.heap.size 0 (List.replicate M (.int .i64 0)) 3 C1.out (List.replicate 1 (Value.int .i64 x)) HIn.out (fun h => ⟨rfl, _, rfl, HSrc.out⟩) (by simp; omega) (by intro v hv; rw [(List.mem_replicate.1 hv).2]; rfl) w.heap.size w KB1.out (Nat.le_refl _) ?_))
  intro w2 hr2 k2
  have R2 : Hid (Cl w.heap.size (List.replicate 1 (.int .i64 x) ++ List.replicate (M - 1) (.int .i64 0)) 3 w2) := by
    show _ = _
    rw [hr2.out]
    congr 2
    have := splice_rep (.int .i64 x) (.int .i64 0) 0 M 1 (by omega)
    simpa using this
  have K2 : Hid (Below w.heap.size w w2) := k2
  clear hr2 k2 C1 KB1 HSrc
  go_wp2
  go_loopw [8] (fun nv wx => ∃ n : Nat, nv = .int .i64 (n : Int) ∧ Hid (1 ≤ n ∧ n ≤ M ∧ Cl w.heap.size (List.replicate n (.int .i64 x) ++ List.replicate (M - n) (.int .i64 0)) 3 wx ∧ Below w.heap.size w wx)) (fun nv _ => M - (intOf nv).toNat)
  case atStart => exact ⟨1, rfl, by omega, by omega, R2.out, K2.out⟩
  case round =>
    clear R2 K2
    obtain ⟨n, rfl, HR⟩ := hrel
    obtain ⟨hn1, hnM, hcl, hbe⟩ := HR.out
    by_cases hlt : n < M
    · have ti : decide ((n : Int) < (M : Int)) = true := decide_eq_true (by omega)
      obtain ⟨D, hD⟩ : ∃ D, M - n = D := ⟨_, rfl⟩
      obtain ⟨Kc, hK⟩ : ∃ Kc, Kc = Nat.min n D := ⟨_, rfl⟩
      have hKb : Kc ≤ D ∧ 1 ≤ Kc ∧ Kc ≤ n := by
        have : Kc = min n D := hK
        omega
      have HSrc : Hid (∀ j v, (List.replicate Kc (Value.int .i64 x))[j]? = some v → wr.drew.cell? ((⟨w.heap.size, 0, none⟩ : Addr).add j) = some v) := by
        intro j v hj
        have hjl : j < Kc := by
          rcases Nat.lt_or_ge j Kc with c | c
          · exact c
          · rw [List.getElem?_eq_none (by simp; omega)] at hj; cases hj
        refine own_news hcl.drew j v ?_
        rw [List.getElem?_append_left (by simp; omega)]
        rw [List.getElem?_replicate, if_pos hjl] at hj
        rw [List.getElem?_replicate, if_pos (by omega), hj]
      have HIm : Hid ((List.replicate Kc (Value.int .i64 x)).length = Nat.min n D) := by show _ = _; rw [List.length_replicate, hK]
      have hMn : ¬ M = n := by omega
      have HFit : Hid (n + (List.replicate Kc (Value.int .i64 x)).length ≤ (List.replicate n (Value.int .i64 x) ++ List.replicate D (Value.int .i64 0)).length) := by show _ ≤ _; simp; omega
      have HKd : Hid (Below w.heap.size w wr.drew) := hbe.drew
      have HCd : Hid (Cl w.heap.size (List.replicate n (.int .i64 x) ++ List.replicate D (.int .i64 0)) 3 wr.drew) := by rw [← hD]; exact hcl.drew
      have HD : Hid (M - n = D) := hD
      clear HM hi hz0 hz1 hz2 HR hcl hbe hK
      go_wp2
      refine wp_region_G (fun _ => True) 9 (by kernel_rfl) trivial (fun hHeld => ?_)
      refine wpAnyG_take (i := 0) (v := ?v0x1) rfl (by kernel_rfl) (fun _ _ _ h => h) (Or.inl ⟨by rfl, ?y0x1⟩) hHeld ?r0x1
      case y0x1 => (intro wS hSw; obtain _ := hSw; go_simp; try with_reducible rfl)
      simp only [Act.put, List.getElem_toArray, List.getElem_cons_zero, List.getElem_cons_succ, List.setIfInBounds_toArray, List.set_cons_zero, List.set_cons_succ]
      refine wpAnyG_take (i := 1) (v := ?v1x2) rfl (by kernel_rfl) (fun _ _ _ h => h) (Or.inl ⟨by rfl, ?y1x2⟩) hHeld ?r1x2
      case y1x2 => (intro wS hSw; obtain _ := hSw; go_simp; try with_reducible rfl)
      simp only [Act.put, List.getElem_toArray, List.getElem_cons_zero, List.getElem_cons_succ, List.setIfInBounds_toArray, List.set_cons_zero, List.set_cons_succ]
      refine wpAnyG_take (i := 2) (v := ?v2x3) rfl (by kernel_rfl) (fun _ _ _ h => h) (Or.inl ⟨by rfl, ?y2x3⟩) hHeld ?r2x3
      case y2x3 => (intro wS hSw; obtain _ := hSw; go_simp; try with_reducible rfl)
      simp only [Act.put, List.getElem_toArray, List.getElem_cons_zero, List.getElem_cons_succ, List.setIfInBounds_toArray, List.set_cons_zero, List.set_cons_succ]
      refine wpAnyG_take (i := 4) (v := ?v4x4) rfl (by kernel_rfl) (fun _ _ _ h => h) (Or.inl ⟨by rfl, ?y4x4⟩) hHeld ?r4x4
      case y4x4 => (intro wS hSw; obtain _ := hSw; go_simp; try with_reducible rfl)
      simp only [Act.put, List.getElem_toArray, List.getElem_cons_zero, List.getElem_cons_succ, List.setIfInBounds_toArray, List.set_cons_zero, List.set_cons_succ]
      refine wpAnyG_take (i := 5) (v := ?v5x5) rfl (by kernel_rfl) (fun _ _ _ h => h) (Or.inl ⟨by rfl, ?y5x5⟩) hHeld ?r5x5
      case y5x5 => (intro wS hSw; obtain _ := hSw; go_simp; try with_reducible rfl)
      simp only [Act.put, List.getElem_toArray, List.getElem_cons_zero, List.getElem_cons_succ, List.setIfInBounds_toArray, List.set_cons_zero, List.set_cons_succ]
      refine wpAnyG_take (i := 3) (v := .slice (some ⟨w.heap.size, n, none⟩) D D) rfl (by kernel_rfl) (fun _ _ _ h => h) (Or.inl ⟨by kernel_rfl, ?y3x6⟩) hHeld ?r3x6
      case y3x6 => (intro wS hSw; go_simp)
      simp only [Act.put, List.getElem_toArray, List.getElem_cons_zero, List.getElem_cons_succ, List.setIfInBounds_toArray, List.set_cons_zero, List.set_cons_succ]
      refine wpAnyG_take (i := 6) (v := .slice (some ⟨w.heap.size, 0, none⟩) n M) rfl (by kernel_rfl) (fun _ _ _ h => h) (Or.inl ⟨by kernel_rfl, ?y6x7⟩) hHeld ?r6x7
      case y6x7 => (intro wS hSw; go_simp)
      simp only [Act.put, List.getElem_toArray, List.getElem_cons_zero, List.getElem_cons_succ, List.setIfInBounds_toArray, List.set_cons_zero, List.set_cons_succ]
      refine wpAnyG_one (i := 7) rfl (by kernel_rfl) (fun Kc' hK' => ?_)
      refine step_copy_splice (by rfl) (.tmp 41) (.tmp 44) 36 36 (by kernel_rfl) 3 Tryd.underlying36 Tryd.sizeInt (some ⟨w.heap.size, n, none⟩) (some ⟨w.heap.size, 0, none⟩) D D n M (by kernel_rfl) (by kernel_rfl) w.heap.size n (List.replicate n (Value.int .i64 x) ++ List.replicate D (Value.int .i64 0)) 3 HCd.out (List.replicate Kc (Value.int .i64 x)) HIm.out (fun h => ⟨rfl, _, rfl, HSrc.out⟩) HFit.out (by intro v hv; rw [(List.mem_replicate.1 hv).2]; rfl) w.heap.size w HKd.out (Nat.le_refl _) ?_
      intro w4 hg4 hb4
      have hlK : (List.replicate Kc (Value.int .i64 x)).length = Kc := by simp
      rw [hlK]
      have HC4 : Hid (Cl w.heap.size (List.replicate (n + Kc) (.int .i64 x) ++ List.replicate (M - (n + Kc)) (.int .i64 0)) 3 w4) := by
        show _ = _
        rw [hg4.out, splice_rep _ _ _ _ _ hKb.1, show D - Kc = M - (n + Kc) by have := HD.out; omega]
      have HB4 : Hid (Below w.heap.size w w4) := hb4
      clear hg4 hb4 HSrc HIm HFit HKd HCd hlK
      go_simp
      refine hK'.out _ _ trivial ?_
      clear hK' Kc'
      refine wpAnyG_take (i := 8) (v := ?v8x8) rfl (by kernel_rfl) (fun _ _ _ h => h) (Or.inl ⟨by rfl, ?y8x8⟩) hHeld ?r8x8
      case y8x8 => (intro wS hSw; obtain _ := hSw; go_simp; try with_reducible rfl)
      simp only [Act.put, List.getElem_toArray, List.getElem_cons_zero, List.getElem_cons_succ, List.setIfInBounds_toArray, List.set_cons_zero, List.set_cons_succ]
      refine wpAnyG_last (i := 9) rfl (by kernel_rfl) (by kernel_rfl) (fun K hK => ?_)
      go_simp
      refine hK.out _ _ ?_
      clear hK K
      refine wpAnyG_done (by kernel_rfl) ?_ _
      have hw : IntKind.i64.wrap ((n : Int) + (Kc : Int)) = ((n + Kc : Nat) : Int) := by rw [IntKind.wrap_i64]; omega
      simp only [hw]
      clear hw
      go_wp2
      go_roundw
      case rel => exact ⟨n + Kc, by first | rfl | go_num, by omega, by have := HD.out; omega, HC4.out, HB4.out⟩
      case measure => simp [intOf]; have := HD.out; omega
    · obtain rfl : n = M := by omega
      have ti : decide ((n : Int) < (n : Int)) = false := decide_eq_false (by omega)
      have HF : Hid (Cl w.heap.size (List.replicate n (.int .i64 x)) 3 wr ∧ Below w.heap.size w wr) := ⟨by have := hcl; rw [Nat.sub_self] at this; simpa using this, hbe⟩
      clear HM hi hz0 hz1 hz2 HR hcl hbe
      go_wp2
      go_ret
      exact ⟨_, rfl, Nat.le_refl _, HF.out⟩

end Go.Proofs.YtmifenflbaohnaaDoor
