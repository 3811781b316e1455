/- The library: math/bits.Mul; slices.Repeat of a list, twice. -/
import Derived.Test.YtmifenflbaohnaaDoorJnD
import Derived.Test.YtmifenflbaohnaaDoorJnC
import Derived.Test.YtmifenflbaohnaaDoorRsK
import Derived.Laws.CopyOwn
set_option linter.unusedSimpArgs false
set_option linter.unusedVariables false
set_option maxRecDepth 100000
namespace Go.Proofs.YtmifenflbaohnaaDoor
open Go.RowKit

theorem Tryd.sizeInt : (Tryd.prog.info? 3).map (·.size) = some 1 := by kernel_rfl

set_option maxHeartbeats 1000000 in
theorem bitsMul_any (x y : Nat) (hx : x < 18446744073709551616) (hy : y < 18446744073709551616) (w : World) :
    Calls Tryd.prog 60 #[.int .u64 x, .int .u64 y] w fun e w' => e = .returned (.tuple #[.int .u64 ((x * y / 18446744073709551616 : Nat) : Int), .int .u64 ((x * y % 18446744073709551616 : Nat) : Int)]) ∧ w' = w := by
  go_enter Tryd.func60, Tryd.ntmps60
  go_wp2_with (go_at_call 77; refine (Mul64_any x y hx hy _).mono ?_; rintro e w' ⟨rfl, rfl⟩)
  exact bodyPost_ret (v := .tuple #[.int .u64 ((x * y / 18446744073709551616 : Nat) : Int), .int .u64 ((x * y % 18446744073709551616 : Nat) : Int)]) (by simp [results, Tryd.results60, go_sem]) rfl ⟨rfl, rfl⟩

theorem Cl.of_make {w w' : World} {n : Nat} (hn : 0 < n) (h : w'.ownsRow w.heap.size 3 1 (.slice (some ⟨w.heap.size, 0, none⟩) n n) n (madeCells #[Value.int .i64 0] n).toList) : Cl w.heap.size (List.replicate n (.int .i64 0)) 3 w' := by
  obtain ⟨h1, h2 | ⟨g, cap, cur, e1, e2, e3, e4, e5, e6, e7⟩⟩ := h
  · obtain ⟨h2, h3⟩ := h2; omega
  · simp at e1
    obtain ⟨rfl, rfl⟩ := e1
    unfold Cl
    rw [e3]
    have : cur.toList = (madeCells #[Value.int .i64 0] n).toList := by
      rw [← e7, List.take_of_length_le (by simp; omega)]
    have e8 : cur = madeCells #[Value.int .i64 0] n := Array.toList_inj.1 this
    rw [e8]
    congr 2
    apply Array.ext
    · simp [madeCells]
    · intro i h1 h2
      simp [madeCells, Nat.mod_one]
theorem ints_one (l : List Int) : ∀ v ∈ ints l, v.oneCell' = true := by
  intro u hu; simp [ints] at hu; obtain ⟨x, _, rfl⟩ := hu; rfl
theorem cells_src {w : World} {g o n : Nat} {l : List Int} (hl : l.length = n) (h : ∀ i, i < n → w.cell? ⟨g, o + i, none⟩ = some (.int .i64 (l.getD i 0))) : ∀ j v, (ints l)[j]? = some v → w.cell? ((⟨g, o, none⟩ : Addr).add j) = some v := by
  intro j v hj
  have hjl : j < n := by
    rcases Nat.lt_or_ge j n with c | c
    · exact c
    · rw [List.getElem?_eq_none (by simp [ints]; omega)] at hj; cases hj
  have e : ((⟨g, o, none⟩ : Addr).add j) = ⟨g, o + j, none⟩ := by
    cases j with
    | zero => rfl
    | succ n => simp [Addr.add]
  have hjl2 : j < l.length := by omega
  rw [e, h j hjl, ← hj]; simp [ints, hjl2, List.getD_eq_getElem?_getD]
theorem IS.ofCl {w : World} {g : Nat} {l : List Int} {c : Nat} (h : Cl g (ints l) 3 w) : IS w (.slice (some ⟨g, 0, none⟩) l.length c) l := by
  refine ⟨some ⟨g, 0, none⟩, g, 0, c, rfl, fun _ => rfl, fun i hi => ?_, fun _ => h.lt⟩
  rw [Nat.zero_add, h.cell i]
  simp [ints, hi, List.getD_eq_getElem?_getD]

set_option maxHeartbeats 1000000 in
theorem Repeat_two (L : List Nat) (a : Option Addr) (c N : Nat) (w : World) (hN : L.length = N) (h1 : 1 ≤ N) (h2 : N ≤ 1000000) (hl : IS w (.slice a N c) (nz L)) :
    Calls Tryd.prog 51 #[.slice a N c, .int .i64 2] w fun e w' => ∃ g, e = .returned (.slice (some ⟨g, 0, none⟩) (2 * N) (2 * N)) ∧ IS w' (.slice (some ⟨g, 0, none⟩) (2 * N) (2 * N)) (nz (L ++ L)) ∧ Below w.heap.size w w' := by
  obtain ⟨i0, hi, hz0, hz1, hz2⟩ := info_parts Tryd.infoInt
  have hnl : (nz L).length = N := by rw [nz_len, hN]
  obtain ⟨la, lg, lo, lc, he, lp, lcell, llt⟩ := hl.shape
  rw [hnl] at he lp lcell llt
  simp only [Value.slice.injEq, true_and] at he
  obtain ⟨rfl, rfl⟩ := he
  obtain rfl := lp (by omega)
  have hlt := llt (by omega)
  have HM : Hid (∀ w, Calls Tryd.prog 60 #[.int .u64 (N : Int), .int .u64 2] w fun e w' => e = .returned (.tuple #[.int .u64 0, .int .u64 ((2 * N : Nat) : Int)]) ∧ w' = w) := fun w => by
    have := bitsMul_any N 2 (by omega) (by omega) w
    rw [Nat.div_eq_of_lt (by omega), Nat.mod_eq_of_lt (by omega), Nat.mul_comm] at this
    exact this
  have HLc : Hid (∀ i, i < N → w.cell? ⟨lg, lo + i, none⟩ = some (.int .i64 ((nz L).getD i 0))) := lcell
  obtain ⟨M, hM⟩ : ∃ M, M = 2 * N := ⟨_, rfl⟩
  rw [← hM] at HM ⊢
  have HMN : Hid (M = 2 * N) := hM
  have hMb : M ≤ 2000000 ∧ N < M := by omega
  clear lp lcell llt hl hM hN
  have HhN : Hid (L.length = N) := by show _ = _; rw [← hnl, nz_len]
  go_enter Tryd.func51, Tryd.ntmps51
  go_wp2_with (first | (go_at_call 60; refine (HM.out _).mono ?_; rintro e w' ⟨rfl, hw'⟩; rw [hw']; clear hw' w') | (at_make; refine wpList_make_full _ rfl _ _ 36 rfl w.heap.size 3 i0 (.int .i64 0) 1 Tryd.underlying36 hi hz0 hz1 .i64 .i64 _ _ M rfl rfl (by omega) (by omega) (by rw [hz2]; omega) (by unfold maxLen; omega) (Nat.le_refl _) ?_))
  intro w1 hmk hb1
  have C1 : Hid (Cl w.heap.size (List.replicate M (.int .i64 0)) 3 w1) := Cl.of_make (by omega) hmk
  have KB1 : Hid (Below w.heap.size w w1) := ⟨hb1.os, hb1.tape, hb1.output, hb1.size, fun k hk => hb1.block k hk (by simp)⟩
  have HSrc : Hid (∀ j v, (ints (nz L))[j]? = some v → w1.cell? ((⟨lg, lo, none⟩ : Addr).add j) = some v) :=
    cells_src hnl (fun i hi => (KB1.out.cell (p := ⟨lg, lo + i, none⟩) hlt).trans (HLc.out i hi))
  have HIl : Hid ((ints (nz L)).length = N) := by show _ = _; simp [ints, hnl]
  have HIn : Hid ((ints (nz L)).length = Nat.min N M) := by show _ = min N M; rw [HIl.out]; omega
  clear hmk hb1 HLc hnl
  go_wp2_with ((refine wpList_copy_splice rfl _ _ 36 36 rfl 3 Tryd.underlying36 Tryd.sizeInt _ _ _ _ _ _ rfl rfl w.heap.size 0 (List.replicate M (.int .i64 0)) 3 C1.out (ints (nz L)) HIn.out (fun h => ⟨rfl, _, rfl, HSrc.out⟩) (by rw [HIl.out]; simp; omega) (ints_one _) w.heap.size w KB1.out (Nat.le_refl _) ?_))
  intro w2 hr2 k2
  have R2 : Hid (Cl w.heap.size (ints (nz L) ++ List.replicate N (.int .i64 0)) 3 w2) := by
    show _ = _
    rw [hr2.out]
    congr 2
    have := HIl.out
    have := HMN.out
    simp [splice, HIl.out]
    rw [show M - N = N by omega]
  have K2 : Hid (Below w.heap.size w w2) := k2
  rw [HIl.out]
  clear hr2 k2 C1 KB1 HSrc
  go_wp2
  go_loopw [8] (fun nv wx => ∃ n : Nat, nv = .int .i64 (n : Int) ∧ ((n = N ∧ Hid (Cl w.heap.size (ints (nz L) ++ List.replicate N (.int .i64 0)) 3 wx ∧ Below w.heap.size w wx)) ∨ (n = M ∧ Hid (Cl w.heap.size (ints (nz L) ++ ints (nz L)) 3 wx ∧ Below w.heap.size w wx)))) (fun nv _ => M - (intOf nv).toNat)
  case atStart => exact ⟨N, rfl, .inl ⟨rfl, R2.out, K2.out⟩⟩
  case round =>
    clear R2 K2
    obtain ⟨n, rfl, ⟨rfl, HR⟩ | ⟨rfl, HR⟩⟩ := hrel
    · have HSrc : Hid (∀ j v, (ints (nz L))[j]? = some v → wr.drew.cell? ((⟨w.heap.size, 0, none⟩ : Addr).add j) = some v) := by
        intro j v hj
        have e : ((⟨w.heap.size, 0, none⟩ : Addr).add j) = ⟨w.heap.size, j, none⟩ := by
          cases j with
          | zero => rfl
          | succ n => simp [Addr.add]
        have hjl : j < (ints (nz L)).length := by
          rcases Nat.lt_or_ge j (ints (nz L)).length with c | c
          · exact c
          · rw [List.getElem?_eq_none c] at hj; cases hj
        rw [e, HR.out.1.drew.cell j, List.getElem?_append_left hjl]; exact hj
      have hMm : M - n = n := by have := HMN.out; omega
      have HIm : Hid ((ints (nz L)).length = Nat.min n n) := by show _ = min n n; rw [HIl.out]; omega
      have hnM : n ≤ M := by omega
      have hMn : ¬ M = n := by omega
      have HFit : Hid (n + (ints (nz L)).length ≤ (ints (nz L) ++ List.replicate n (Value.int .i64 0)).length) := by show _ ≤ _; rw [List.length_append, HIl.out]; simp
      have HKd : Hid (Below w.heap.size w wr.drew) := HR.out.2.drew
      have HCd : Hid (Cl w.heap.size (ints (nz L) ++ List.replicate n (.int .i64 0)) 3 wr.drew) := HR.out.1.drew
      clear HM hi hz0 hz1 hz2
      go_wp2
      refine wp_region_G (fun _ => True) 9 (by kernel_rfl) trivial (fun hHeld => ?_)
      refine wpAnyG_take (i := 0) (v := ?v0x1) rfl (by kernel_rfl) (fun _ _ _ h => h) (Or.inl ⟨by rfl, ?y0x1⟩) hHeld ?r0x1
      case y0x1 => (intro wS hSw; obtain _ := hSw; go_simp; try with_reducible rfl)
      try simp only [Act.put, List.setIfInBounds_toArray, List.set_cons_zero, List.set_cons_succ]
      refine wpAnyG_take (i := 1) (v := ?v1x2) rfl (by kernel_rfl) (fun _ _ _ h => h) (Or.inl ⟨by rfl, ?y1x2⟩) hHeld ?r1x2
      case y1x2 => (intro wS hSw; obtain _ := hSw; go_simp; try with_reducible rfl)
      try simp only [Act.put, List.setIfInBounds_toArray, List.set_cons_zero, List.set_cons_succ]
      refine wpAnyG_take (i := 2) (v := ?v2x3) rfl (by kernel_rfl) (fun _ _ _ h => h) (Or.inl ⟨by rfl, ?y2x3⟩) hHeld ?r2x3
      case y2x3 => (intro wS hSw; obtain _ := hSw; go_simp; try with_reducible rfl)
      try simp only [Act.put, List.setIfInBounds_toArray, List.set_cons_zero, List.set_cons_succ]
      refine wpAnyG_take (i := 4) (v := ?v4x4) rfl (by kernel_rfl) (fun _ _ _ h => h) (Or.inl ⟨by rfl, ?y4x4⟩) hHeld ?r4x4
      case y4x4 => (intro wS hSw; obtain _ := hSw; go_simp; try with_reducible rfl)
      try simp only [Act.put, List.setIfInBounds_toArray, List.set_cons_zero, List.set_cons_succ]
      refine wpAnyG_take (i := 5) (v := ?v5x5) rfl (by kernel_rfl) (fun _ _ _ h => h) (Or.inl ⟨by rfl, ?y5x5⟩) hHeld ?r5x5
      case y5x5 => (intro wS hSw; obtain _ := hSw; go_simp; try with_reducible rfl)
      try simp only [Act.put, List.setIfInBounds_toArray, List.set_cons_zero, List.set_cons_succ]
      refine wpAnyG_take (i := 3) (v := .slice (some ⟨w.heap.size, n, none⟩) n n) rfl (by kernel_rfl) (fun _ _ _ h => h) (Or.inl ⟨by kernel_rfl, ?y3x6⟩) hHeld ?r3x6
      case y3x6 => (intro wS hSw; go_simp)
      try simp only [Act.put, List.setIfInBounds_toArray, List.set_cons_zero, List.set_cons_succ]
      refine wpAnyG_take (i := 6) (v := .slice (some ⟨w.heap.size, 0, none⟩) n M) rfl (by kernel_rfl) (fun _ _ _ h => h) (Or.inl ⟨by kernel_rfl, ?y6x7⟩) hHeld ?r6x7
      case y6x7 => (intro wS hSw; go_simp)
      try simp only [Act.put, List.setIfInBounds_toArray, List.set_cons_zero, List.set_cons_succ]
      refine wpAnyG_one (i := 7) rfl (by kernel_rfl) (fun K hK => ?_)
      refine step_copy_splice (by rfl) (.tmp 41) (.tmp 44) 36 36 (by kernel_rfl) 3 Tryd.underlying36 Tryd.sizeInt (some ⟨w.heap.size, n, none⟩) (some ⟨w.heap.size, 0, none⟩) n n n M (by kernel_rfl) (by kernel_rfl) w.heap.size n (ints (nz L) ++ List.replicate n (Value.int .i64 0)) 3 HCd.out (ints (nz L)) HIm.out (fun h => ⟨rfl, _, rfl, HSrc.out⟩) HFit.out (ints_one _) w.heap.size w HKd.out (Nat.le_refl _) ?_
      intro w4 hg4 hb4
      rw [HIl.out]
      have HC4 : Hid (Cl w.heap.size (ints (nz L) ++ ints (nz L)) 3 w4) := by
        show _ = _
        rw [hg4.out]
        congr 2
        have := HIl.out
        simp [splice, HIl.out]
      have HB4 : Hid (Below w.heap.size w w4) := hb4
      clear hg4 hb4 HSrc HIm HFit HKd HCd
      go_simp
      refine hK.out _ _ trivial ?_
      clear hK K
      try simp only [Act.put, List.setIfInBounds_toArray, List.set_cons_zero, List.set_cons_succ]
      refine wpAnyG_take (i := 8) (v := ?v8x8) rfl (by kernel_rfl) (fun _ _ _ h => h) (Or.inl ⟨by rfl, ?y8x8⟩) hHeld ?r8x8
      case y8x8 => (intro wS hSw; obtain _ := hSw; go_simp; try with_reducible rfl)
      try simp only [Act.put, List.setIfInBounds_toArray, List.set_cons_zero, List.set_cons_succ]
      refine wpAnyG_last (i := 9) rfl (by kernel_rfl) (by kernel_rfl) (fun K hK => ?_)
      go_simp
      refine hK.out _ _ ?_
      clear hK K
      try simp only [Act.put, List.setIfInBounds_toArray, List.set_cons_zero, List.set_cons_succ]
      refine wpAnyG_done (by kernel_rfl) ?_ _
      have hw : IntKind.i64.wrap ((n : Int) + (n : Int)) = (M : Int) := by rw [IntKind.wrap_i64]; have := HMN.out; omega
      simp only [hw]
      clear hw
      go_wp2
      go_roundw
      case rel => exact ⟨M, rfl, .inr ⟨rfl, HC4.out, HB4.out⟩⟩
      case measure => simp [intOf]; omega
    · have HIS : Hid (IS wr (.slice (some ⟨w.heap.size, 0, none⟩) n n) (nz (L ++ L))) := by
        have h := HR.out.1
        have e : ints (nz L) ++ ints (nz L) = ints (nz (L ++ L)) := by simp [ints, nz]
        rw [e] at h
        have hl : (nz (L ++ L)).length = n := by rw [nz_len, List.length_append, HhN.out]; have := HMN.out; omega
        have := IS.ofCl (c := n) h
        rw [hl] at this
        exact this
      clear HM hi hz0 hz1 hz2
      go_wp2
      go_ret
      exact ⟨_, rfl, HIS.out, HR.out.2⟩

end Go.Proofs.YtmifenflbaohnaaDoor
