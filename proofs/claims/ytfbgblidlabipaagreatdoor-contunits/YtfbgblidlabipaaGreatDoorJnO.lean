import Derived.Test.YtfbgblidlabipaaGreatDoorJnJ
import Derived.Test.YtfbgblidlabipaaGreatDoorJnD
import Derived.Laws.CopyOwn
import Derived.Test.YtfbgblidlabipaaGreatDoorJnC
import Derived.Shelf.Strings.Builder1
import Derived.Shelf.Strings.BuilderK
import Derived.Shelf.LaysM
import Derived.Shelf.Strconv.Itoa3
import Derived.Shelf.Strings.Repeat
import Derived.Test.YtfbgblidlabipaaGreatDoorProg
import Derived.Test.YtfbgblidlabipaaGreatDoorJnK
import Derived.Lib.AppendIntMem
section
/- The library: math/bits.Mul; slices.Repeat of a list, twice. -/
set_option linter.unusedSimpArgs false
set_option linter.unusedVariables false
set_option maxRecDepth 100000
namespace Go.Proofs.YtfbgblidlabipaaGreatDoor
open Go.RowKit

theorem Tryz.sizeInt : (Tryz.prog.info? 3).map (·.size) = some 1 := by kernel_rfl

set_option maxHeartbeats 1000000 in
theorem bitsMul_any (x y : Nat) (hx : x < 18446744073709551616) (hy : y < 18446744073709551616) (w : World) :
    Calls Tryz.prog 178 #[.int .u64 x, .int .u64 y] w fun e w' => e = .returned (.tuple #[.int .u64 ((x * y / 18446744073709551616 : Nat) : Int), .int .u64 ((x * y % 18446744073709551616 : Nat) : Int)]) ∧ w' = w := by
  go_enter Tryz.func178, Tryz.ntmps178
  go_wp2_with (go_at_call 230; refine (Mul64_any x y hx hy _).mono ?_; rintro e w' ⟨rfl, rfl⟩)
  exact bodyPost_ret (v := .tuple #[.int .u64 ((x * y / 18446744073709551616 : Nat) : Int), .int .u64 ((x * y % 18446744073709551616 : Nat) : Int)]) (by simp [results, Tryz.results178, go_sem]) rfl ⟨rfl, rfl⟩

theorem Cl.of_make {w w' : World} {n : Nat} (hn : 0 < n) (h : w'.ownsRow w.heap.size 3 1 (.slice (some ⟨w.heap.size, 0, none⟩) n n) n (madeCells #[Value.int .i64 0] n).toList) : Cl w.heap.size (List.replicate n (.int .i64 0)) 3 w' := by
  obtain ⟨h1, h2 | ⟨g, cap, cur, e1, e2, e3, e4, e5, e6, e7⟩⟩ := h
  · obtain ⟨h2, h3⟩ := h2; omega
  · simp at e1
    obtain ⟨rfl, rfl⟩ := e1
    unfold Cl
    rw [e3]
    have : cur.toList = (madeCells #[Value.int .i64 0] n).toList := by
      rw [← e7, List.take_of_length_le (by simp; omega)]
    have e8 : cur = madeCells #[Value.int .i64 0] n := Array.toList_inj.1 this
    rw [e8]
    congr 2
    apply Array.ext
    · simp [madeCells]
    · intro i h1 h2
      simp [madeCells, Nat.mod_one]
theorem ints_one (l : List Int) : ∀ v ∈ ints l, v.oneCell' = true := by
  intro u hu; simp [ints] at hu; obtain ⟨x, _, rfl⟩ := hu; rfl
theorem cells_src {w : World} {g o n : Nat} {l : List Int} (hl : l.length = n) (h : ∀ i, i < n → w.cell? ⟨g, o + i, none⟩ = some (.int .i64 (l.getD i 0))) : ∀ j v, (ints l)[j]? = some v → w.cell? ((⟨g, o, none⟩ : Addr).add j) = some v := by
  intro j v hj
  have hjl : j < n := by
    rcases Nat.lt_or_ge j n with c | c
    · exact c
    · rw [List.getElem?_eq_none (by simp [ints]; omega)] at hj; cases hj
  have e : ((⟨g, o, none⟩ : Addr).add j) = ⟨g, o + j, none⟩ := by
    cases j with
    | zero => rfl
    | succ n => simp [Addr.add]
  have hjl2 : j < l.length := by omega
  rw [e, h j hjl, ← hj]; simp [ints, hjl2, List.getD_eq_getElem?_getD]
theorem IS.ofCl {w : World} {g : Nat} {l : List Int} {c : Nat} (h : Cl g (ints l) 3 w) : IS w (.slice (some ⟨g, 0, none⟩) l.length c) l := by
  refine ⟨some ⟨g, 0, none⟩, g, 0, c, rfl, fun _ => rfl, fun i hi => ?_, fun _ => h.lt⟩
  rw [Nat.zero_add, h.cell i]
  simp [ints, hi, List.getD_eq_getElem?_getD]

set_option maxHeartbeats 1000000 in
theorem Repeat_two (L : List Nat) (a : Option Addr) (c N : Nat) (w : World) (hN : L.length = N) (h1 : 1 ≤ N) (h2 : N ≤ 1000000) (hl : IS w (.slice a N c) (nz L)) :
    Calls Tryz.prog 124 #[.slice a N c, .int .i64 2] w fun e w' => ∃ g, e = .returned (.slice (some ⟨g, 0, none⟩) (2 * N) (2 * N)) ∧ IS w' (.slice (some ⟨g, 0, none⟩) (2 * N) (2 * N)) (nz (L ++ L)) ∧ Below w.heap.size w w' := by
  obtain ⟨i0, hi, hz0, hz1, hz2⟩ := info_parts Tryz.infoInt
  have hnl : (nz L).length = N := by rw [nz_len, hN]
  obtain ⟨la, lg, lo, lc, he, lp, lcell, llt⟩ := hl.shape
  rw [hnl] at he lp lcell llt
  simp only [Value.slice.injEq, true_and] at he
  obtain ⟨rfl, rfl⟩ := he
  obtain rfl := lp (by omega)
  have hlt := llt (by omega)
  have HM : Hid (∀ w, Calls Tryz.prog 178 #[.int .u64 (N : Int), .int .u64 2] w fun e w' => e = .returned (.tuple #[.int .u64 0, .int .u64 ((2 * N : Nat) : Int)]) ∧ w' = w) := fun w => by
    have := bitsMul_any N 2 (by omega) (by omega) w
    rw [Nat.div_eq_of_lt (by omega), Nat.mod_eq_of_lt (by omega), Nat.mul_comm] at this
    exact this
  have HLc : Hid (∀ i, i < N → w.cell? ⟨lg, lo + i, none⟩ = some (.int .i64 ((nz L).getD i 0))) := lcell
  obtain ⟨M, hM⟩ : ∃ M, M = 2 * N := ⟨_, rfl⟩
  rw [← hM] at HM ⊢
  have HMN : Hid (M = 2 * N) := hM
  have hMb : M ≤ 2000000 ∧ N < M := by omega
  clear lp lcell llt hl hM hN
  have HhN : Hid (L.length = N) := by show _ = _; rw [← hnl, nz_len]
  go_enter Tryz.func124, Tryz.ntmps124
  go_wp2_with (first | (go_at_call 178; refine (HM.out _).mono ?_; rintro e w' ⟨rfl, hw'⟩; rw [hw']; clear hw' w') | (at_make; refine wpList_make_full _ rfl _ _ 80 rfl w.heap.size 3 i0 (.int .i64 0) 1 Tryz.underlying80 hi hz0 hz1 .i64 .i64 _ _ M rfl rfl (by omega) (by omega) (by rw [hz2]; omega) (by unfold maxLen; omega) (Nat.le_refl _) ?_))
  intro w1 hmk hb1
  have C1 : Hid (Cl w.heap.size (List.replicate M (.int .i64 0)) 3 w1) := Cl.of_make (by omega) hmk
  have KB1 : Hid (Below w.heap.size w w1) := ⟨hb1.os, hb1.tape, hb1.output, hb1.size, fun k hk => hb1.block k hk (by simp)⟩
  have HSrc : Hid (∀ j v, (ints (nz L))[j]? = some v → w1.cell? ((⟨lg, lo, none⟩ : Addr).add j) = some v) :=
    cells_src hnl (fun i hi => (KB1.out.cell (p := ⟨lg, lo + i, none⟩) hlt).trans (HLc.out i hi))
  have HIl : Hid ((ints (nz L)).length = N) := by show _ = _; simp [ints, hnl]
  have HIn : Hid ((ints (nz L)).length = Nat.min N M) := by show _ = min N M; rw [HIl.out]; omega
  clear hmk hb1 HLc hnl
  go_wp2_with ((refine wpList_copy_splice rfl _ _ 80 80 rfl 3 Tryz.underlying80 Tryz.sizeInt _ _ _ _ _ _ rfl rfl w.heap.size 0 (List.replicate M (.int .i64 0)) 3 C1.out (ints (nz L)) HIn.out (fun h => ⟨rfl, _, rfl, HSrc.out⟩) (by rw [HIl.out]; simp; omega) (ints_one _) w.heap.size w KB1.out (Nat.le_refl _) ?_))
  intro w2 hr2 k2
  have R2 : Hid (Cl w.heap.size (ints (nz L) ++ List.replicate N (.int .i64 0)) 3 w2) := by
    show _ = _
    rw [hr2.out]
    congr 2
    have := HIl.out
    have := HMN.out
    simp [splice, HIl.out]
    rw [show M - N = N by omega]
  have K2 : Hid (Below w.heap.size w w2) := k2
  rw [HIl.out]
  clear hr2 k2 C1 KB1 HSrc
  go_wp2
  go_loopw [8] (fun nv wx => ∃ n : Nat, nv = .int .i64 (n : Int) ∧ ((n = N ∧ Hid (Cl w.heap.size (ints (nz L) ++ List.replicate N (.int .i64 0)) 3 wx ∧ Below w.heap.size w wx)) ∨ (n = M ∧ Hid (Cl w.heap.size (ints (nz L) ++ ints (nz L)) 3 wx ∧ Below w.heap.size w wx)))) (fun nv _ => M - (intOf nv).toNat)
  case atStart => exact ⟨N, rfl, .inl ⟨rfl, R2.out, K2.out⟩⟩
  case round =>
    clear R2 K2
    obtain ⟨n, rfl, ⟨rfl, HR⟩ | ⟨rfl, HR⟩⟩ := hrel
    · have HSrc : Hid (∀ j v, (ints (nz L))[j]? = some v → wr.drew.cell? ((⟨w.heap.size, 0, none⟩ : Addr).add j) = some v) := by
        intro j v hj
        have e : ((⟨w.heap.size, 0, none⟩ : Addr).add j) = ⟨w.heap.size, j, none⟩ := by
          cases j with
          | zero => rfl
          | succ n => simp [Addr.add]
        have hjl : j < (ints (nz L)).length := by
          rcases Nat.lt_or_ge j (ints (nz L)).length with c | c
          · exact c
          · rw [List.getElem?_eq_none c] at hj; cases hj
        rw [e, HR.out.1.drew.cell j, List.getElem?_append_left hjl]; exact hj
      have hMm : M - n = n := by have := HMN.out; omega
      have HIm : Hid ((ints (nz L)).length = Nat.min n n) := by show _ = min n n; rw [HIl.out]; omega
      have hnM : n ≤ M := by omega
      have hMn : ¬ M = n := by omega
      have HFit : Hid (n + (ints (nz L)).length ≤ (ints (nz L) ++ List.replicate n (Value.int .i64 0)).length) := by show _ ≤ _; rw [List.length_append, HIl.out]; simp
      have HKd : Hid (Below w.heap.size w wr.drew) := HR.out.2.drew
      have HCd : Hid (Cl w.heap.size (ints (nz L) ++ List.replicate n (.int .i64 0)) 3 wr.drew) := HR.out.1.drew
      clear HM hi hz0 hz1 hz2
      go_wp2
      refine wp_region_G (fun _ => True) 9 (by kernel_rfl) trivial (fun hHeld => ?_)
      refine wpAnyG_take (i := 0) (v := ?v0x1) rfl (by kernel_rfl) (fun _ _ _ h => h) (Or.inl ⟨by rfl, ?y0x1⟩) hHeld ?r0x1
      case y0x1 => (intro wS hSw; obtain _ := hSw; go_simp; try with_reducible rfl)
      try simp only [Act.put, List.setIfInBounds_toArray, List.set_cons_zero, List.set_cons_succ]
      refine wpAnyG_take (i := 1) (v := ?v1x2) rfl (by kernel_rfl) (fun _ _ _ h => h) (Or.inl ⟨by rfl, ?y1x2⟩) hHeld ?r1x2
      case y1x2 => (intro wS hSw; obtain _ := hSw; go_simp; try with_reducible rfl)
      try simp only [Act.put, List.setIfInBounds_toArray, List.set_cons_zero, List.set_cons_succ]
      refine wpAnyG_take (i := 2) (v := ?v2x3) rfl (by kernel_rfl) (fun _ _ _ h => h) (Or.inl ⟨by rfl, ?y2x3⟩) hHeld ?r2x3
      case y2x3 => (intro wS hSw; obtain _ := hSw; go_simp; try with_reducible rfl)
      try simp only [Act.put, List.setIfInBounds_toArray, List.set_cons_zero, List.set_cons_succ]
      refine wpAnyG_take (i := 4) (v := ?v4x4) rfl (by kernel_rfl) (fun _ _ _ h => h) (Or.inl ⟨by rfl, ?y4x4⟩) hHeld ?r4x4
      case y4x4 => (intro wS hSw; obtain _ := hSw; go_simp; try with_reducible rfl)
      try simp only [Act.put, List.setIfInBounds_toArray, List.set_cons_zero, List.set_cons_succ]
      refine wpAnyG_take (i := 5) (v := ?v5x5) rfl (by kernel_rfl) (fun _ _ _ h => h) (Or.inl ⟨by rfl, ?y5x5⟩) hHeld ?r5x5
      case y5x5 => (intro wS hSw; obtain _ := hSw; go_simp; try with_reducible rfl)
      try simp only [Act.put, List.setIfInBounds_toArray, List.set_cons_zero, List.set_cons_succ]
      refine wpAnyG_take (i := 3) (v := .slice (some ⟨w.heap.size, n, none⟩) n n) rfl (by kernel_rfl) (fun _ _ _ h => h) (Or.inl ⟨by kernel_rfl, ?y3x6⟩) hHeld ?r3x6
      case y3x6 => (intro wS hSw; go_simp)
      try simp only [Act.put, List.setIfInBounds_toArray, List.set_cons_zero, List.set_cons_succ]
      refine wpAnyG_take (i := 6) (v := .slice (some ⟨w.heap.size, 0, none⟩) n M) rfl (by kernel_rfl) (fun _ _ _ h => h) (Or.inl ⟨by kernel_rfl, ?y6x7⟩) hHeld ?r6x7
      case y6x7 => (intro wS hSw; go_simp)
      try simp only [Act.put, List.setIfInBounds_toArray, List.set_cons_zero, List.set_cons_succ]
      refine wpAnyG_one (i := 7) rfl (by kernel_rfl) (fun K hK => ?_)
      refine step_copy_splice (by rfl) (.tmp 41) (.tmp 44) 80 80 (by kernel_rfl) 3 Tryz.underlying80 Tryz.sizeInt (some ⟨w.heap.size, n, none⟩) (some ⟨w.heap.size, 0, none⟩) n n n M (by kernel_rfl) (by kernel_rfl) w.heap.size n (ints (nz L) ++ List.replicate n (Value.int .i64 0)) 3 HCd.out (ints (nz L)) HIm.out (fun h => ⟨rfl, _, rfl, HSrc.out⟩) HFit.out (ints_one _) w.heap.size w HKd.out (Nat.le_refl _) ?_
      intro w4 hg4 hb4
      rw [HIl.out]
      have HC4 : Hid (Cl w.heap.size (ints (nz L) ++ ints (nz L)) 3 w4) := by
        show _ = _
        rw [hg4.out]
        congr 2
        have := HIl.out
        simp [splice, HIl.out]
      have HB4 : Hid (Below w.heap.size w w4) := hb4
      clear hg4 hb4 HSrc HIm HFit HKd HCd
      go_simp
      refine hK.out _ _ trivial ?_
      clear hK K
      try simp only [Act.put, List.setIfInBounds_toArray, List.set_cons_zero, List.set_cons_succ]
      refine wpAnyG_take (i := 8) (v := ?v8x8) rfl (by kernel_rfl) (fun _ _ _ h => h) (Or.inl ⟨by rfl, ?y8x8⟩) hHeld ?r8x8
      case y8x8 => (intro wS hSw; obtain _ := hSw; go_simp; try with_reducible rfl)
      try simp only [Act.put, List.setIfInBounds_toArray, List.set_cons_zero, List.set_cons_succ]
      refine wpAnyG_last (i := 9) rfl (by kernel_rfl) (by kernel_rfl) (fun K hK => ?_)
      go_simp
      refine hK.out _ _ ?_
      clear hK K
      try simp only [Act.put, List.setIfInBounds_toArray, List.set_cons_zero, List.set_cons_succ]
      refine wpAnyG_done (by kernel_rfl) ?_ _
      have hw : IntKind.i64.wrap ((n : Int) + (n : Int)) = (M : Int) := by rw [IntKind.wrap_i64]; have := HMN.out; omega
      simp only [hw]
      clear hw
      go_wp2
      go_roundw
      case rel => exact ⟨M, rfl, .inr ⟨rfl, HC4.out, HB4.out⟩⟩
      case measure => simp [intOf]; omega
    · have HIS : Hid (IS wr (.slice (some ⟨w.heap.size, 0, none⟩) n n) (nz (L ++ L))) := by
        have h := HR.out.1
        have e : ints (nz L) ++ ints (nz L) = ints (nz (L ++ L)) := by simp [ints, nz]
        rw [e] at h
        have hl : (nz (L ++ L)).length = n := by rw [nz_len, List.length_append, HhN.out]; have := HMN.out; omega
        have := IS.ofCl (c := n) h
        rw [hl] at this
        exact this
      clear HM hi hz0 hz1 hz2
      go_wp2
      go_ret
      exact ⟨_, rfl, HIS.out, HR.out.2⟩

end Go.Proofs.YtfbgblidlabipaaGreatDoor
end

section
/- The shelf's contracts of strconv.Itoa, strings.Repeat and strings.Builder at this program, laid by the kit's tools in plain words. -/
namespace Go.Proofs.YtfbgblidlabipaaGreatDoor
open Go.Shelf
def Tryz.lays169_ren : Go.Shelf.Ren := ⟨fun | 169 => 140 | n => n, fun | 70 => 181 | 9 => 9 | 0 => 0 | 72 => 184 | 37 => 182 | 127 => 226 | 3 => 3 | 5 => 5 | n => n, fun | n => n⟩
theorem Tryz.lays169 : Go.Proofs.Lays.n169 Tryz.prog Tryz.lays169_ren := {
  mixed := by kernel_rfl
  f169 := Tryz.func140.trans (congrArg some (by kernel_rfl))
  t0 := Tryz.underlying0
  a0 := Tryz.isAgg0
  z0 := Tryz.sizeOf0
  v0 := Tryz.zeroValue0
  t3 := Tryz.underlying3
  a3 := Tryz.isAgg3
  z3 := Tryz.sizeOf3
  v3 := Tryz.zeroValue3
  t9 := Tryz.underlying9
  a9 := Tryz.isAgg9
  z9 := Tryz.sizeOf9
  v9 := Tryz.zeroValue9
  t37 := Tryz.underlying182
  a37 := Tryz.isAgg182
  z37 := Tryz.sizeOf182
  v37 := Tryz.zeroValue182
  t70 := Tryz.underlying181
  a70 := Tryz.isAgg181
  z70 := Tryz.sizeOf181
  v70 := Tryz.zeroValue181
  t72 := Tryz.underlying184
  a72 := Tryz.isAgg184
  z72 := Tryz.sizeOf184
  v72 := Tryz.zeroValue184
  t127 := Tryz.underlying226
  a127 := Tryz.isAgg226
  z127 := Tryz.sizeOf226
  v127 := Tryz.zeroValue226 }
theorem Tryz.Builder_Extra_169 : Builder.Extra Tryz.prog Tryz.lays169_ren := {
  sizeBuilder := by kernel_rfl
  liesBuilder := by kernel_rfl
  t5 := Tryz.underlying5
  a5 := Tryz.isAgg5
  z5 := Tryz.sizeOf5
  v5 := Tryz.zeroValue5
  infoByte := by kernel_rfl
  cellsByte := by kernel_rfl
  sizeByte := by kernel_rfl
  neB5 := by decide }
open Go.RowKit in
theorem Tryz.Builder_String_any_k (B b : Nat) (l : List UInt8) (w : World) (h : Lib.IsBuilderF 184 5 B b (Lib.byteCells l) w) (hBw : B ≤ w.heap.size) :
    Calls Tryz.prog 140 #[.pointer (some ⟨b, 0, none⟩)] w fun e w' => e = .returned (.string ⟨l.toArray⟩) ∧ (Lib.IsBuilderF 184 5 B b (Lib.byteCells l) w' ∧ Below B w w' ∧ Lib.OthersKept 5 (some b) w w') := Any.Builder_String_any_k Tryz.lays169 Tryz.Builder_Extra_169 B b l w h hBw
def Tryz.laysM171_ren : Go.Shelf.Ren := ⟨fun | 171 => 138 | 243 => 188 | 246 => 234 | 283 => 263 | 284 => 264 | 285 => 265 | 286 => 266 | 129 => 254 | 317 => 279 | 318 => 280 | 319 => 281 | 320 => 282 | 337 => 292 | 338 => 195 | n => n, fun | 3 => 3 | 9 => 9 | 2 => 2 | 4 => 4 | 171 => 280 | 0 => 0 | 53 => 172 | 37 => 182 | 5 => 5 | 173 => 282 | 212 => 293 | 51 => 126 | 20 => 20 | 213 => 294 | 46 => 41 | 232 => 309 | 233 => 262 | n => n, fun | 17 => 1 | 18 => 3 | 19 => 0 | n => n⟩
theorem Tryz.laysM171 : Go.Proofs.LaysM.n171 Tryz.prog Tryz.laysM171_ren := {
  mixed := by kernel_rfl
  f129 := Tryz.func254.trans (congrArg some (by kernel_rfl))
  f171 := Tryz.func138.trans (congrArg some (by kernel_rfl))
  f243 := Tryz.func188.trans (congrArg some (by kernel_rfl))
  f246 := Tryz.func234.trans (congrArg some (by kernel_rfl))
  f283 := Tryz.func263.trans (congrArg some (by kernel_rfl))
  f284 := Tryz.func264.trans (congrArg some (by kernel_rfl))
  f285 := Tryz.func265.trans (congrArg some (by kernel_rfl))
  f286 := Tryz.func266.trans (congrArg some (by kernel_rfl))
  f317 := Tryz.func279.trans (congrArg some (by kernel_rfl))
  f318 := Tryz.func280.trans (congrArg some (by kernel_rfl))
  f319 := Tryz.func281.trans (congrArg some (by kernel_rfl))
  f320 := Tryz.func282.trans (congrArg some (by kernel_rfl))
  f337 := Tryz.func292.trans (congrArg some (by kernel_rfl))
  f338 := Tryz.func195.trans (congrArg some (by kernel_rfl))
  t0 := Tryz.underlying0
  a0 := Tryz.isAgg0
  z0 := Tryz.sizeOf0
  v0 := Tryz.zeroValue0
  t2 := Tryz.underlying2
  a2 := Tryz.isAgg2
  z2 := Tryz.sizeOf2
  v2 := Tryz.zeroValue2
  t3 := Tryz.underlying3
  a3 := Tryz.isAgg3
  z3 := Tryz.sizeOf3
  v3 := Tryz.zeroValue3
  t4 := Tryz.underlying4
  a4 := Tryz.isAgg4
  z4 := Tryz.sizeOf4
  v4 := Tryz.zeroValue4
  t5 := Tryz.underlying5
  a5 := Tryz.isAgg5
  z5 := Tryz.sizeOf5
  v5 := Tryz.zeroValue5
  t9 := Tryz.underlying9
  a9 := Tryz.isAgg9
  z9 := Tryz.sizeOf9
  v9 := Tryz.zeroValue9
  t20 := Tryz.underlying20
  a20 := Tryz.isAgg20
  z20 := Tryz.sizeOf20
  v20 := Tryz.zeroValue20
  t37 := Tryz.underlying182
  a37 := Tryz.isAgg182
  z37 := Tryz.sizeOf182
  v37 := Tryz.zeroValue182
  t46 := Tryz.underlying41
  a46 := Tryz.isAgg41
  z46 := Tryz.sizeOf41
  v46 := Tryz.zeroValue41
  t51 := Tryz.underlying126
  a51 := Tryz.isAgg126
  z51 := Tryz.sizeOf126
  v51 := Tryz.zeroValue126
  t53 := Tryz.underlying172
  a53 := Tryz.isAgg172
  z53 := Tryz.sizeOf172
  v53 := Tryz.zeroValue172
  t171 := Tryz.underlying280
  a171 := Tryz.isAgg280
  z171 := Tryz.sizeOf280
  v171 := Tryz.zeroValue280
  t173 := Tryz.underlying282
  a173 := Tryz.isAgg282
  z173 := Tryz.sizeOf282
  v173 := Tryz.zeroValue282
  t212 := Tryz.underlying293
  a212 := Tryz.isAgg293
  z212 := Tryz.sizeOf293
  v212 := Tryz.zeroValue293
  t213 := Tryz.underlying294
  a213 := Tryz.isAgg294
  z213 := Tryz.sizeOf294
  t232 := Tryz.underlying309
  a232 := Tryz.isAgg309
  z232 := Tryz.sizeOf309
  v232 := Tryz.zeroValue309
  t233 := Tryz.underlying262
  a233 := Tryz.isAgg262
  z233 := Tryz.sizeOf262
  v233 := Tryz.zeroValue262
  g17 := by kernel_rfl
  g18 := by kernel_rfl
  g19 := by kernel_rfl
  i0 := by kernel_rfl
  i2 := by kernel_rfl
  i3 := by kernel_rfl
  i4 := by kernel_rfl
  i5 := by kernel_rfl
  i9 := by kernel_rfl
  i20 := by kernel_rfl
  i37 := by kernel_rfl
  i46 := by kernel_rfl
  i51 := by kernel_rfl
  i53 := by kernel_rfl
  i171 := by kernel_rfl
  i173 := by kernel_rfl
  i212 := by kernel_rfl
  i232 := by kernel_rfl
  i233 := by kernel_rfl
  m17 := by kernel_rfl
  m18 := by kernel_rfl
  m19 := by kernel_rfl }
open Go.RowKit Go.Sort Go.Lib in
theorem Tryz.strconv_Itoa (n : Int) (h0 : -9223372036854775808 ≤ n) (h1 : n ≤ 9223372036854775807) (w : World) (htab : Lib.TabIs Tryz.prog w "internal/strconv.uint64pow10" .u64 Lib.pow10Tab) :
    Calls Tryz.prog 138 #[.int .i64 n] w fun e w' => e = .returned (.string ⟨(Lib.itoa n).toArray⟩) ∧ ∃ k os, w' = grow (w.drewN k) os := Any.strconv_Itoa Tryz.laysM171 n h0 h1 w htab
def Tryz.lays105_ren : Go.Shelf.Ren := ⟨fun | 105 => 139 | 212 => 178 | 99 => 189 | 165 => 190 | 166 => 137 | 170 => 191 | 169 => 140 | 263 => 229 | 264 => 230 | 206 => 235 | 240 => 187 | 241 => 236 | 276 => 233 | 277 => 267 | n => n, fun | 9 => 9 | 3 => 3 | 4 => 4 | 20 => 20 | 0 => 0 | 46 => 41 | 109 => 220 | 5 => 5 | 72 => 184 | 76 => 187 | 51 => 126 | 146 => 255 | 53 => 172 | 148 => 257 | 70 => 181 | 37 => 182 | 75 => 186 | 127 => 226 | 164 => 259 | 80 => 60 | n => n, fun | n => n⟩
theorem Tryz.lays105 : Go.Proofs.Lays.n105 Tryz.prog Tryz.lays105_ren := {
  mixed := by kernel_rfl
  f99 := Tryz.func189.trans (congrArg some (by kernel_rfl))
  f105 := Tryz.func139.trans (congrArg some (by kernel_rfl))
  f165 := Tryz.func190.trans (congrArg some (by kernel_rfl))
  f166 := Tryz.func137.trans (congrArg some (by kernel_rfl))
  f169 := Tryz.func140.trans (congrArg some (by kernel_rfl))
  f170 := Tryz.func191.trans (congrArg some (by kernel_rfl))
  f206 := Tryz.func235.trans (congrArg some (by kernel_rfl))
  f212 := Tryz.func178.trans (congrArg some (by kernel_rfl))
  f240 := Tryz.func187.trans (congrArg some (by kernel_rfl))
  f241 := Tryz.func236.trans (congrArg some (by kernel_rfl))
  f263 := Tryz.func229.trans (congrArg some (by kernel_rfl))
  f264 := Tryz.func230.trans (congrArg some (by kernel_rfl))
  f276 := Tryz.func233.trans (congrArg some (by kernel_rfl))
  f277 := Tryz.func267.trans (congrArg some (by kernel_rfl))
  t0 := Tryz.underlying0
  a0 := Tryz.isAgg0
  z0 := Tryz.sizeOf0
  v0 := Tryz.zeroValue0
  t3 := Tryz.underlying3
  a3 := Tryz.isAgg3
  z3 := Tryz.sizeOf3
  v3 := Tryz.zeroValue3
  t4 := Tryz.underlying4
  a4 := Tryz.isAgg4
  z4 := Tryz.sizeOf4
  v4 := Tryz.zeroValue4
  t5 := Tryz.underlying5
  a5 := Tryz.isAgg5
  z5 := Tryz.sizeOf5
  v5 := Tryz.zeroValue5
  t9 := Tryz.underlying9
  a9 := Tryz.isAgg9
  z9 := Tryz.sizeOf9
  v9 := Tryz.zeroValue9
  t20 := Tryz.underlying20
  a20 := Tryz.isAgg20
  z20 := Tryz.sizeOf20
  v20 := Tryz.zeroValue20
  t37 := Tryz.underlying182
  a37 := Tryz.isAgg182
  z37 := Tryz.sizeOf182
  v37 := Tryz.zeroValue182
  t46 := Tryz.underlying41
  a46 := Tryz.isAgg41
  z46 := Tryz.sizeOf41
  v46 := Tryz.zeroValue41
  t51 := Tryz.underlying126
  a51 := Tryz.isAgg126
  z51 := Tryz.sizeOf126
  v51 := Tryz.zeroValue126
  t53 := Tryz.underlying172
  a53 := Tryz.isAgg172
  z53 := Tryz.sizeOf172
  v53 := Tryz.zeroValue172
  t70 := Tryz.underlying181
  a70 := Tryz.isAgg181
  z70 := Tryz.sizeOf181
  v70 := Tryz.zeroValue181
  t72 := Tryz.underlying184
  a72 := Tryz.isAgg184
  z72 := Tryz.sizeOf184
  v72 := Tryz.zeroValue184
  t75 := Tryz.underlying186
  a75 := Tryz.isAgg186
  z75 := Tryz.sizeOf186
  v75 := Tryz.zeroValue186
  t76 := Tryz.underlying187
  a76 := Tryz.isAgg187
  z76 := Tryz.sizeOf187
  v76 := Tryz.zeroValue187
  t109 := Tryz.underlying220
  a109 := Tryz.isAgg220
  z109 := Tryz.sizeOf220
  v109 := Tryz.zeroValue220
  t127 := Tryz.underlying226
  a127 := Tryz.isAgg226
  z127 := Tryz.sizeOf226
  v127 := Tryz.zeroValue226
  t146 := Tryz.underlying255
  a146 := Tryz.isAgg255
  z146 := Tryz.sizeOf255
  v146 := Tryz.zeroValue255
  t148 := Tryz.underlying257
  a148 := Tryz.isAgg257
  z148 := Tryz.sizeOf257
  v148 := Tryz.zeroValue257
  t164 := Tryz.underlying259
  a164 := Tryz.isAgg259
  z164 := Tryz.sizeOf259
  v164 := Tryz.zeroValue259 }
theorem Tryz.Builder_Extra_105 : Builder.Extra Tryz.prog Tryz.lays105_ren := {
  sizeBuilder := by kernel_rfl
  liesBuilder := by kernel_rfl
  t5 := Tryz.underlying5
  a5 := Tryz.isAgg5
  z5 := Tryz.sizeOf5
  v5 := Tryz.zeroValue5
  infoByte := by kernel_rfl
  cellsByte := by kernel_rfl
  sizeByte := by kernel_rfl
  neB5 := by decide }
open Go.RowKit Go.Lib in
theorem Tryz.strings_Repeat (s : ByteArray) (c : Nat) (w : World) (hc : c ≤ 9223372036854775807) (hlen : s.size * c ≤ 140737488355328) :
    Calls Tryz.prog 139 #[.string s, .int .i64 c] w fun e w' => e = .returned (.string ⟨(Lib.repeatL s.data.toList c).toArray⟩) ∧ Below w.heap.size w w' := Any.strings_Repeat Tryz.lays105 Tryz.Builder_Extra_105 s c w hc hlen
end Go.Proofs.YtfbgblidlabipaaGreatDoor
end

section
/- Package long: String. -/
set_option linter.unusedSimpArgs false
set_option linter.unusedVariables false
set_option maxRecDepth 100000
namespace Go.Proofs.YtfbgblidlabipaaGreatDoor
open Go.RowKit LgM

/-- The table of powers of ten lies as it was laid. -/
def Tq (w : World) : Prop := Lib.TabIs Tryz.prog w "internal/strconv.uint64pow10" .u64 Lib.pow10Tab
theorem Tq.below {w w' : World} (h : Tq w) (k : Below w.heap.size w w') : Tq w' := Lib.tabBelow_of_tabIs h w' k
theorem Tq.upto {B : Nat} {w w' : World} (h : Tq w) (k : Below B w w') (hB : w.heap.size ≤ B) : Tq w' := h.below (k.mono hB)

theorem below_grow (w : World) (k : Nat) (os : Array Obj) : Below w.heap.size w (Sort.grow (w.drewN k) os) := by
  refine ⟨rfl, rfl, rfl, by simp [Sort.grow, World.drewN], fun j hj => ?_⟩
  have : (w.drewN k).heap = w.heap := rfl
  simp [Sort.grow, this, Array.getElem?_append_left hj]

/-- The builder at block b, made by this call, holds the text l. -/
def Bd (b : Nat) (l : List UInt8) (w : World) : Prop := Lib.IsBuilderF 184 5 b b (Lib.byteCells l) w
theorem BuilderAtF_below {T e : TypeId} {B b : Nat} {p : Value} {bs : List Value} {w w' : World} (h : Lib.BuilderAtF T e B b p bs w) (k : Below w.heap.size w w') : Lib.BuilderAtF T e B b p bs w' := by
  obtain ⟨h1, v, h2, h3, h4⟩ := h
  refine ⟨h1, v, (k.block b (lt_of_some h2)).trans h2, ?_, h4⟩
  obtain ⟨h5, h6 | ⟨g, cap, cur, fz, a1, a2, a3, a4⟩⟩ := h3
  · exact ⟨h5, .inl h6⟩
  · exact ⟨h5, .inr ⟨g, cap, cur, fz, a1, a2, (k.block g (lt_of_some a3)).trans a3, a4⟩⟩
theorem Bd.below {b : Nat} {l : List UInt8} {w w' : World} (h : Bd b l w) (k : Below w.heap.size w w') : Bd b l w' := by
  rcases h with h | h
  · exact .inl (BuilderAtF_below h k)
  · exact .inr (BuilderAtF_below h k)
theorem Bd.new (w : World) : Bd w.heap.size [] (w.alloc (.cells #[.pointer none, .slice none 0 0] 184)) := Lib.IsBuilderF.of (Lib.fresh_isBuilder _ _ w)

theorem repeatL_one (c : Nat) : Lib.repeatL [48] c = List.replicate c 48 := by
  induction c with
  | zero => rfl
  | succ c ih => rw [Lib.repeatL, ih]; rfl

theorem Itoa_nat (n : Nat) (h : n ≤ 9000000000000000000) (w : World) (hT : Tq w) :
    Calls Tryz.prog 138 #[.int .i64 (n : Int)] w fun e w' => e = .returned (.string ⟨(Lib.decDigits n).toArray⟩) ∧ Below w.heap.size w w' := by
  refine (Tryz.strconv_Itoa n (by omega) (by omega) w hT).mono ?_
  rintro e w' ⟨rfl, k, os, rfl⟩
  refine ⟨?_, below_grow w k os⟩
  unfold Lib.itoa
  rw [if_neg (by omega)]
  rfl

theorem Tryz.Write_k (B b : Nat) (bs : List Value) (s : ByteArray) (w : World) (h : Lib.IsBuilderF 184 5 B b bs w) (hlen : bs.length + s.size ≤ 140737488355328) (hBw : B ≤ w.heap.size) :
    Calls Tryz.prog 137 #[.pointer (some ⟨b, 0, none⟩), .string s] w fun e w' => e = .returned (.tuple #[.int .i64 s.size, .nilIface]) ∧ (Lib.BuilderAtF 184 5 B b (.pointer (some ⟨b, 0, none⟩)) (bs ++ Lib.strCells s) w' ∧ Below B w w' ∧ Lib.OthersKept 5 (some b) w w') :=
  Any.Builder_WriteString_k (ρ := Tryz.lays105_ren) { Tryz.lays105 with } Tryz.Builder_Extra_105 B b bs s w h hlen hBw

theorem Write_text (b : Nat) (l s : List UInt8) (w : World) (h : Bd b l w) (hb : b ≤ w.heap.size) (hl : l.length + s.length ≤ 100000000) :
    Calls Tryz.prog 137 #[.pointer (some ⟨b, 0, none⟩), .string ⟨s.toArray⟩] w fun e w' => e = .returned (.tuple #[.int .i64 s.length, .nilIface]) ∧ Bd b (l ++ s) w' ∧ Below b w w' := by
  refine (Tryz.Write_k b b _ ⟨s.toArray⟩ w h (by rw [Lib.byteCells_length]; show l.length + s.toArray.size ≤ _; simp; omega) hb).mono ?_
  rintro e w' ⟨rfl, h1, h2, _⟩
  refine ⟨rfl, .inr ?_, h2⟩
  rw [Lib.byteCells_append]
  exact h1

theorem pow9 (m : Nat) : Bs ^ m = 10 ^ (9 * m) := by rw [Nat.pow_mul]
theorem text_len (x m : Nat) (hm : 1 ≤ m) (h : x < Bs ^ m) : (Lib.decDigits x).length ≤ 9 * m := dec_len x (9 * m) (by omega) (by rw [← pow9]; exact h)

set_option maxHeartbeats 4000000 in
theorem String_any (v : Value) (n m : Nat) (w : World) (h : LN w v n) (hn : n < Bs ^ m) (hm1 : 1 ≤ m) (hm : m ≤ 1000000) (hT : Tq w) :
    Calls Tryz.prog 73 #[.agg #[v]] w fun e w' => e = .returned (.string ⟨(Lib.decDigits n).toArray⟩) ∧ Below w.heap.size w w' := by
  obtain ⟨k, ax, gx, ox, cx, rfl, nx, hpx, hcx, hlx⟩ := h.open
  have hkm := nx.le hn
  have HNX : Hid (Nd k n) := nx
  have HN : Hid (n < Bs ^ m) := hn
  have HT : Hid (Tq w) := hT
  clear h nx hn hT
  by_cases hk0 : k = 0
  · subst hk0
    have hn0 : n = 0 := by have := HNX.out.lt; simpa using this
    subst hn0
    clear hpx hcx hlx
    go_enter Tryz.func73, Tryz.ntmps73
    go_wp2
    go_ret
    exact ⟨by rw [dec_lt (by decide)]; rfl, (Below.refl _ _).alloc (Nat.le_refl _) _⟩
  · obtain ⟨L, rfl⟩ : ∃ L, k = L + 1 := ⟨k - 1, by omega⟩
    obtain rfl := hpx (by omega)
    have hlx := hlx (by omega)
    have HCX : Hid (∀ W, Below w.heap.size w W → ∀ i, i < L + 1 → W.cell? ⟨gx, ox + i, none⟩ = some (.int .i64 ((n / Bs ^ i % Bs : Nat) : Int))) := fun W k i hi => (k.cell (p := ⟨gx, ox + i, none⟩) hlx).trans (hcx i hi)
    have hge : Bs ^ L ≤ n := by rcases HNX.out.ge with h | h; omega; simpa using h
    have HGE : Hid (Bs ^ L ≤ n) := hge
    clear hpx hcx hge hk0
    obtain ⟨W0, hW0⟩ : ∃ W0, W0 = ((w.alloc (.cells #[.slice (some ⟨gx, ox, none⟩) (L + 1) cx] 118)).alloc (.cells #[.pointer none, .slice none 0 0] 184)) := ⟨_, rfl⟩
    have z0 : W0.heap.size = w.heap.size + 2 := by rw [hW0]; simp
    have KB0 : Hid (Below w.heap.size w W0) := by
      show Below _ _ _
      rw [hW0]; exact ((Below.refl _ _).alloc (Nat.le_refl _) _).alloc (by simp) _
    have X0 : Cl w.heap.size [.slice (some ⟨gx, ox, none⟩) (L + 1) cx] 118 W0 := by rw [hW0]; exact (Cl.new [.slice (some ⟨gx, ox, none⟩) (L + 1) cx] _ w).alloc _
    have B0 : Bd (w.heap.size + 1) [] W0 := by rw [hW0]; have := Bd.new (w.alloc (.cells #[.slice (some ⟨gx, ox, none⟩) (L + 1) cx] 118)); simpa using this
    have HX0 : Hid (Cl w.heap.size [.slice (some ⟨gx, ox, none⟩) (L + 1) cx] 118 W0) := X0
    have HB0 : Hid (Bd (w.heap.size + 1) [] W0) := B0
    obtain ⟨d, hd⟩ : ∃ d, d = n / Bs ^ L % Bs := ⟨_, rfl⟩
    have htop : n / Bs ^ L % Bs = n / Bs ^ L := Nat.mod_eq_of_lt (by rw [Nat.div_lt_iff_lt_mul (bs_pos L), Nat.mul_comm, ← pow_s]; exact HNX.out.lt)
    have q0 : ∀ x y : Obj, ((w.alloc x).alloc y).cell? ⟨gx, ox + L, none⟩ = some (.int .i64 (d : Int)) := fun x y => by
      rw [hd]; exact HCX.out _ (((Below.refl _ _).alloc (Nat.le_refl _) _).alloc (by simp) _) L (by omega)
    have hd1 : d ≤ 999999999 := by rw [hd]; exact lim_le (Nat.mod_lt _ (by decide))
    have HD : Hid (d = n / Bs ^ L) := by show _ = _; rw [hd]; exact htop
    have HI0 : Hid (∀ W, Tq W → Calls Tryz.prog 138 #[.int .i64 (d : Int)] W fun e w' => e = .returned (.string ⟨(Lib.decDigits d).toArray⟩) ∧ Below W.heap.size W w') := fun W h => Itoa_nat d (by omega) W h
    clear hd htop X0 B0
    go_enter Tryz.func73, Tryz.ntmps73
    go_wp2_with fail
    rw [← hW0]
    clear q0 hW0
    refine (HI0.out W0 (HT.out.below KB0.out)).mono ?_
    rintro e w1 ⟨rfl, k1⟩
    have D1 := HB0.out.below k1
    go_wp2_with fail
    refine (Write_text (w.heap.size + 1) [] (Lib.decDigits d) w1 D1 (by have := k1.size; omega) (by have := text_len d 1 (by omega) (by rw [Nat.pow_one]; exact Nat.lt_of_le_of_lt hd1 (by decide)); simp; omega)).mono ?_
    rintro e w2 ⟨rfl, D2, k2⟩
    rw [List.nil_append, HD.out] at D2
    have HB2 : Hid (Bd (w.heap.size + 1) (Lib.decDigits (n / Bs ^ L)) w2) := D2
    have HK2 : Hid (Below (w.heap.size + 1) W0 w2) := (k1.mono (by omega)).trans k2
    have z2 : w.heap.size + 2 ≤ w2.heap.size := by have := HK2.out.size; omega
    clear D1 k1 D2 k2 HI0 HB0
    go_wp2
    go_loopw [21] (fun iv wx => ∃ i : Nat, i ≤ L ∧ iv = .int .i64 (i : Int) ∧ Hid (Bd (w.heap.size + 1) (Lib.decDigits (n / Bs ^ (L - i))) wx ∧ Below (w.heap.size + 1) W0 wx)) (fun iv _ => L - (intOf iv).toNat)
    case atStart => exact ⟨0, Nat.zero_le _, rfl, HB2.out, HK2.out⟩
    case round =>
      clear HB2 HK2
      obtain ⟨i, hiL, rfl, HR⟩ := hrel
      have hzr : w.heap.size + 2 ≤ wr.heap.size := by have := HR.out.2.size; omega
      by_cases hlt : i < L
      · obtain ⟨j, hj⟩ : ∃ j, j = L - 1 - i := ⟨_, rfl⟩
        obtain ⟨d, hd⟩ : ∃ d, d = n / Bs ^ j % Bs := ⟨_, rfl⟩
        have hd1 : d ≤ 999999999 := by rw [hd]; exact lim_le (Nat.mod_lt _ (by decide))
        have q1 : wr.cell? ⟨w.heap.size, 0, none⟩ = some (.slice (some ⟨gx, ox, none⟩) (L + 1) cx) := by
          have a := HX0.out.cell 0
          rw [HR.out.2.cell (p := ⟨w.heap.size, 0, none⟩) (by show w.heap.size < _; omega)]
          simpa using a
        have q0 : wr.cell? ⟨gx, ox + (L - 1 - i), none⟩ = some (.int .i64 (d : Int)) := by
          rw [hd, hj]; exact HCX.out _ (KB0.out.trans (HR.out.2.mono (by omega))) (L - 1 - i) (by omega)
        have hjI : (L : Int) - 1 - (i : Int) = ((L - 1 - i : Nat) : Int) := by omega
        rw [← hj] at q0 hjI
        have HJ : Hid (j = L - 1 - i) := hj
        have hjL : j < L := by omega
        have HDd : Hid (d = n / Bs ^ j % Bs) := hd
        have HTr : Hid (Tq wr) := HT.out.below (KB0.out.trans (HR.out.2.mono (by omega)))
        have hdl : (Lib.decDigits d).length ≤ 9 := text_len d 1 (by omega) (by rw [Nat.pow_one]; exact Nat.lt_of_le_of_lt hd1 (by decide))
        obtain ⟨s, hs⟩ : ∃ s, s = Lib.decDigits d := ⟨_, rfl⟩
        rw [← hs] at hdl
        obtain ⟨c, hc⟩ : ∃ c : Nat, c = 9 - s.length := ⟨_, rfl⟩
        have hcI : (9 : Int) - (s.length : Int) = (c : Int) := by omega
        have HS : Hid (s = Lib.decDigits d) := hs
        have HCc : Hid (c = 9 - s.length) := hc
        have hc9 : c ≤ 9 := by omega
        have HI0 : Hid (∀ W, Tq W → Calls Tryz.prog 138 #[.int .i64 (d : Int)] W fun e w' => e = .returned (.string ⟨s.toArray⟩) ∧ Below W.heap.size W w') := fun W h => by rw [hs]; exact Itoa_nat d (by omega) W h
        clear hj hd hs hc
        go_wp2_with fail
        refine (HI0.out wr HTr.out).mono ?_
        rintro e w1 ⟨rfl, k1⟩
        have D1 : Hid (Bd (w.heap.size + 1) (Lib.decDigits (n / Bs ^ (L - i))) w1) := HR.out.1.below k1
        have z1 := k1.size
        have HK1 : Hid (Below (w.heap.size + 1) W0 w1) := HR.out.2.trans (k1.mono (by omega))
        clear k1 q0 q1
        have HRep : Hid (∀ W, Calls Tryz.prog 139 #[.string ⟨#[48]⟩, .int .i64 (c : Int)] W fun e w' => e = .returned (.string ⟨(List.replicate c (48 : UInt8)).toArray⟩) ∧ Below W.heap.size W w') := fun W => by
          have := Tryz.strings_Repeat ⟨#[48]⟩ c W (by omega) (by show 1 * c ≤ _; omega)
          rw [← repeatL_one]; exact this
        have hTx : (Lib.decDigits (n / Bs ^ (L - i))).length ≤ 9000000 := by
          have h1 : n / Bs ^ (L - i) < Bs ^ m := Nat.lt_of_le_of_lt (Nat.div_le_self _ _) HN.out
          have := text_len _ m hm1 h1
          omega
        have HTx : Hid ((Lib.decDigits (n / Bs ^ (L - i))).length ≤ 9000000) := hTx
        have HStep : Hid (Lib.decDigits (n / Bs ^ (L - i)) ++ List.replicate c 48 ++ s = Lib.decDigits (n / Bs ^ (L - (i + 1)))) := by
          show _ = _
          have h1 := dec_limb n j (by
            have := HGE.out
            have h2 := Nat.pow_le_pow_right (show 0 < Bs by decide) (show j + 1 ≤ L by omega)
            omega)
          rw [show L - (i + 1) = j by have := HJ.out; omega, h1, show L - i = j + 1 by have := HJ.out; omega, HCc.out, HS.out, HDd.out, List.append_assoc]
        clear hTx
        go_wp2_with fail
        refine (HRep.out w1).mono ?_
        rintro e w3 ⟨rfl, k3⟩
        have D3 : Hid (Bd (w.heap.size + 1) (Lib.decDigits (n / Bs ^ (L - i))) w3) := D1.out.below k3
        have z3 := k3.size
        have HK3 : Hid (Below (w.heap.size + 1) W0 w3) := HK1.out.trans (k3.mono (by omega))
        clear k3
        go_wp2_with fail
        refine (Write_text (w.heap.size + 1) _ (List.replicate c 48) w3 D3.out (by omega) (by have := HTx.out; simp; omega)).mono ?_
        rintro e w4 ⟨rfl, D4, k4⟩
        have HD4 : Hid (Bd (w.heap.size + 1) (Lib.decDigits (n / Bs ^ (L - i)) ++ List.replicate c 48) w4) := D4
        have z4 := k4.size
        have HK4 : Hid (Below (w.heap.size + 1) W0 w4) := HK3.out.trans k4
        clear D4 k4
        go_wp2_with fail
        refine (Write_text (w.heap.size + 1) _ s w4 HD4.out (by omega) (by have := HTx.out; simp; omega)).mono ?_
        rintro e w5 ⟨rfl, D5, k5⟩
        rw [HStep.out] at D5
        have HD5 : Hid (Bd (w.heap.size + 1) (Lib.decDigits (n / Bs ^ (L - (i + 1)))) w5) := D5
        have HK5 : Hid (Below (w.heap.size + 1) W0 w5) := HK4.out.trans k5
        clear D5 k5
        go_wp2
        go_roundw
        case rel => exact ⟨i + 1, by omega, by go_num, HD5.out, HK5.out⟩
        case measure => simp [intOf]; omega
      · obtain rfl : i = L := by omega
        have HB9 : Hid (Bd (w.heap.size + 1) (Lib.decDigits n) wr) := by
          have := HR.out.1
          rw [Nat.sub_self, Nat.pow_zero, Nat.div_one] at this
          exact this
        go_wp2_with fail
        refine (Tryz.Builder_String_any_k (w.heap.size + 1) (w.heap.size + 1) (Lib.decDigits n) wr HB9.out (by omega)).mono ?_
        rintro e w1 ⟨rfl, _, k1, _⟩
        have HK9 : Hid (Below w.heap.size w w1) := KB0.out.trans ((HR.out.2.trans k1).mono (by omega))
        clear k1
        go_wp2
        go_ret
        exact ⟨rfl, HK9.out⟩

end Go.Proofs.YtfbgblidlabipaaGreatDoor
end
