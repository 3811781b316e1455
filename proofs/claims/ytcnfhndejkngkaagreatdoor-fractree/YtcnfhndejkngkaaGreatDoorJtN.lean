import Derived.Shelf.Strings.SlTrimAscii
import Derived.Test.YtcnfhndejkngkaaGreatDoorProg
import Derived.Test.YtcnfhndejkngkaaGreatDoorNdA
import Derived.Test.YtcnfhndejkngkaaGreatDoorJtM
section
/- The shelf's contract of strings.TrimLeft at this program, laid by the kit's tools in plain words. -/
namespace Go.Proofs.YtcnfhndejkngkaaGreatDoor
open Go.Shelf
def Tryz.lays161_ren : Go.Shelf.Ren := ⟨fun | 161 => 50 | 231 => 76 | 227 => 77 | 233 => 78 | 235 => 79 | 228 => 108 | 197 => 109 | 151 => 110 | 260 => 135 | 152 => 136 | 137 => 146 | 119 => 147 | 224 => 148 | 225 => 149 | 217 => 159 | 266 => 172 | n => n, fun | 9 => 9 | 4 => 4 | 3 => 3 | 5 => 5 | 117 => 110 | 116 => 109 | 0 => 0 | 124 => 113 | 105 => 146 | 21 => 21 | 119 => 171 | 46 => 134 | 139 => 174 | 138 => 173 | n => n, fun | 3 => 0 | 4 => 1 | n => n⟩
theorem Tryz.lays161 : Go.Proofs.Lays.n161 Tryz.prog Tryz.lays161_ren := {
  mixed := by kernel_rfl
  f119 := Tryz.func147.trans (congrArg some (by kernel_rfl))
  f137 := Tryz.func146.trans (congrArg some (by kernel_rfl))
  f151 := Tryz.func110.trans (congrArg some (by kernel_rfl))
  f152 := Tryz.func136.trans (congrArg some (by kernel_rfl))
  f161 := Tryz.func50.trans (congrArg some (by kernel_rfl))
  f197 := Tryz.func109.trans (congrArg some (by kernel_rfl))
  f217 := Tryz.func159.trans (congrArg some (by kernel_rfl))
  f224 := Tryz.func148.trans (congrArg some (by kernel_rfl))
  f225 := Tryz.func149.trans (congrArg some (by kernel_rfl))
  f227 := Tryz.func77.trans (congrArg some (by kernel_rfl))
  f228 := Tryz.func108.trans (congrArg some (by kernel_rfl))
  f231 := Tryz.func76.trans (congrArg some (by kernel_rfl))
  f233 := Tryz.func78.trans (congrArg some (by kernel_rfl))
  f235 := Tryz.func79.trans (congrArg some (by kernel_rfl))
  f260 := Tryz.func135.trans (congrArg some (by kernel_rfl))
  f266 := Tryz.func172.trans (congrArg some (by kernel_rfl))
  t0 := Tryz.underlying0
  a0 := Tryz.isAgg0
  z0 := Tryz.sizeOf0
  v0 := Tryz.zeroValue0
  t3 := Tryz.underlying3
  a3 := Tryz.isAgg3
  z3 := Tryz.sizeOf3
  v3 := Tryz.zeroValue3
  t4 := Tryz.underlying4
  a4 := Tryz.isAgg4
  z4 := Tryz.sizeOf4
  v4 := Tryz.zeroValue4
  t5 := Tryz.underlying5
  a5 := Tryz.isAgg5
  z5 := Tryz.sizeOf5
  v5 := Tryz.zeroValue5
  t9 := Tryz.underlying9
  a9 := Tryz.isAgg9
  z9 := Tryz.sizeOf9
  v9 := Tryz.zeroValue9
  t21 := Tryz.underlying21
  a21 := Tryz.isAgg21
  z21 := Tryz.sizeOf21
  v21 := Tryz.zeroValue21
  t46 := Tryz.underlying134
  a46 := Tryz.isAgg134
  z46 := Tryz.sizeOf134
  v46 := Tryz.zeroValue134
  t105 := Tryz.underlying146
  a105 := Tryz.isAgg146
  z105 := Tryz.sizeOf146
  v105 := Tryz.zeroValue146
  t116 := Tryz.underlying109
  a116 := Tryz.isAgg109
  z116 := Tryz.sizeOf109
  t117 := Tryz.underlying110
  a117 := Tryz.isAgg110
  z117 := Tryz.sizeOf110
  v117 := Tryz.zeroValue110
  t119 := Tryz.underlying171
  a119 := Tryz.isAgg171
  z119 := Tryz.sizeOf171
  t124 := Tryz.underlying113
  a124 := Tryz.isAgg113
  z124 := Tryz.sizeOf113
  v124 := Tryz.zeroValue113
  t138 := Tryz.underlying173
  a138 := Tryz.isAgg173
  z138 := Tryz.sizeOf173
  v138 := Tryz.zeroValue173
  t139 := Tryz.underlying174
  a139 := Tryz.isAgg174
  z139 := Tryz.sizeOf174
  v139 := Tryz.zeroValue174
  g3 := by kernel_rfl
  g4 := by kernel_rfl }
open Go.RowKit in
theorem Tryz.strings_TrimLeft_LR (s : ByteArray) (w : World) :
    Calls Tryz.prog 50 #[.string s, .string ⟨#[76, 82]⟩] w fun e w' => e = .returned (.string ⟨(Lib.trimLeftS s.data.toList [76, 82]).toArray⟩) ∧ Below w.heap.size w w' := Any.strings_TrimLeft_laid Tryz.lays161 (by kernel_rfl) s ⟨#[76, 82]⟩ w (by decide) (ascii_of_all (by decide))
end Go.Proofs.YtcnfhndejkngkaaGreatDoor
end

section
/- frac.Node. -/
set_option linter.unusedSimpArgs false
set_option linter.unusedVariables false
set_option maxRecDepth 100000
namespace Go.Proofs.YtcnfhndejkngkaaGreatDoor
open Go.RowKit

namespace TR
theorem okb_is (c : UInt8) : [76, 82].contains c = okb c := by
  unfold okb
  by_cases h1 : c = 76 <;> by_cases h2 : c = 82 <;> simp [List.contains_cons, h1, h2]
/-- What is left behind the first steps. -/
theorem drop_len : ∀ P : List UInt8, (Lib.trimLeftS P [76, 82]).length + P.findIdx (fun c => !okb c) = P.length ∧ (Lib.trimLeftS P [76, 82] = [] ↔ ∀ c ∈ P, okb c = true)
  | [] => by simp [Lib.trimLeftS]
  | c :: P => by
    have ih := drop_len P
    unfold Lib.trimLeftS at ih ⊢
    rw [List.dropWhile_cons, okb_is]
    by_cases h : okb c = true
    · rw [if_pos h, List.findIdx_cons]
      simp only [h, Bool.not_true, cond_false, List.length_cons, List.forall_mem_cons, true_and]
      exact ⟨by omega, ih.2⟩
    · have h2 : okb c = false := by simpa using h
      rw [if_neg h, List.findIdx_cons]
      simp [h2]
theorem tf_is (P : List UInt8) : tf P = (2, 0) ∧ 20000 < P.length ∨ P.length ≤ 20000 ∧ ((tf P = (0, 0) ∧ Lib.trimLeftS P [76, 82] = [] ∧ ∀ c ∈ P, okb c = true) ∨ (tf P = (1, ((P.length - (Lib.trimLeftS P [76, 82]).length : Nat) : Int)) ∧ Lib.trimLeftS P [76, 82] ≠ [] ∧ (Lib.trimLeftS P [76, 82]).length ≤ P.length)) := by
  have h := drop_len P
  by_cases h1 : 20000 < P.length
  · exact .inl ⟨tf_long h1, h1⟩
  · refine .inr ⟨by omega, ?_⟩
    by_cases h2 : ∀ c ∈ P, okb c = true
    · exact .inl ⟨tf_ok (by omega) h2, h.2.2 h2, h2⟩
    · refine .inr ⟨?_, fun e => h2 (h.2.1 e), by omega⟩
      unfold tf
      rw [if_neg h1, if_neg (by rw [List.all_eq_true]; exact h2)]
      have : P.findIdx (fun c => !okb c) = P.length - (Lib.trimLeftS P [76, 82]).length := by omega
      rw [this]
end TR
/-- What Node answers. -/
def NdIs (P : List UInt8) (x y c d : Int) : Prop :=
  ((TR.tf P).1 ≠ 0 ∧ (c, d) = TR.tf P ∧ x = 0 ∧ y = 0) ∨ (P.length ≤ 20000 ∧ (∀ c ∈ P, TR.okb c = true) ∧ WdOut (TR.steps P) x y c d)

set_option maxHeartbeats 2000000 in
theorem Node_any (P : List UInt8) (w : World) (hP : P.length ≤ 9223372036854775807) :
    Calls Tryz.prog 20 #[.string ⟨P.toArray⟩] w fun e w' => ∃ x y c d : Int, e = .returned (.tuple #[.agg #[.int .i64 x, .int .i64 y], .agg #[.int .i64 c, .int .i64 d]]) ∧ NdIs P x y c d ∧ Below w.heap.size w w' := by
  have HTf : Hid _ := TR.tf_is P
  obtain ⟨S, hS⟩ : ∃ S : ByteArray, S = ⟨P.toArray⟩ := ⟨_, rfl⟩
  obtain ⟨R, hR⟩ : ∃ R : ByteArray, R = ⟨(Lib.trimLeftS P [76, 82]).toArray⟩ := ⟨_, rfl⟩
  obtain ⟨n, hn⟩ : ∃ n, n = P.length := ⟨_, rfl⟩
  obtain ⟨m, hm⟩ : ∃ m, m = (Lib.trimLeftS P [76, 82]).length := ⟨_, rfl⟩
  have hsz : S.size = n := by rw [hS, hn]; simp [ByteArray.size]
  have hrz : R.size = m := by rw [hR, hm]; simp [ByteArray.size]
  have HTl : Hid (∀ W, Calls Tryz.prog 50 #[.string S, .string ⟨#[76, 82]⟩] W fun e w' => e = .returned (.string R) ∧ Below W.heap.size W w') := fun W => by
    have := Tryz.strings_TrimLeft_LR S W
    rw [hR, hS]
    rw [hS] at this
    exact this
  have HS : Hid (S = ⟨P.toArray⟩ ∧ R = ⟨(Lib.trimLeftS P [76, 82]).toArray⟩ ∧ n = P.length ∧ m = (Lib.trimLeftS P [76, 82]).length) := ⟨hS, hR, hn, hm⟩
  rw [← hS]
  have hn9 : n ≤ 9223372036854775807 := by omega
  clear hS hR hn hm
  obtain ⟨b2, hb2⟩ : ∃ b, b = w.heap.size := ⟨_, rfl⟩
  obtain ⟨b3, hb3⟩ : ∃ b, b = w.heap.size + 1 := ⟨_, rfl⟩
  have n3 : b2 ≠ b3 := by omega
  have n4 : b3 ≠ b2 := by omega
  have z2 : w.heap.size ≤ b2 := by omega
  have z3 : w.heap.size ≤ b3 := by omega
  obtain ⟨W0, hW0⟩ : ∃ W, W = (w.alloc (.cells #[.int .i64 0, .int .i64 0] 23)).alloc (.cells #[.int .i64 0, .int .i64 0] 25) := ⟨_, rfl⟩
  have K0 : Hid (Sv b2 0 0 W0 ∧ Sv b3 0 0 W0 ∧ Below w.heap.size w W0) := by
    show _ ∧ _
    rw [hW0, hb2, hb3]
    have a2 := Sv.newT 0 0 (w.alloc (.cells #[.int .i64 0, .int .i64 0] 23)) 25
    simp only [World.size_alloc] at a2
    exact ⟨(Sv.newT 0 0 w _).alloc _ _, a2, ((Below.refl _ _).alloc (Nat.le_refl _) _).alloc (by simp) _⟩
  go_enter Tryz.func20, Tryz.ntmps20
  rcases HTf.out with ⟨h1, h2⟩ | ⟨h2, ⟨h1, h3, h4⟩ | ⟨h1, h3, h4⟩⟩
  · have tn : decide (20000 < (n : Int)) = true := decide_eq_true (by have := HS.out.2.2.1; omega)
    have tn2 : decide (20000 < n) = true := decide_eq_true (by have := HS.out.2.2.1; omega)
    have HC : Hid (NdIs P 0 0 2 0) := .inl ⟨by rw [h1]; decide, by rw [h1], rfl, rfl⟩
    clear h1 h2 HTf HTl K0 hW0 hb2 hb3
    go_wp2
    exact bodyPost_ret (v := .tuple #[.agg #[.int .i64 0, .int .i64 0], .agg #[.int .i64 2, .int .i64 0]]) (by simp [results, Tryz.results20, go_sem]) rfl ⟨0, 0, 2, 0, rfl, HC.out, by repeat (first | exact Below.refl _ _ | refine Below.setCell ?_ (by simp) _ | refine Below.alloc ?_ (by simp) _)⟩
  · have tn : decide (20000 < (n : Int)) = false := decide_eq_false (by have := HS.out.2.2.1; omega)
    have tn2 : decide (20000 < n) = false := decide_eq_false (by have := HS.out.2.2.1; omega)
    have hRe : R = ⟨#[]⟩ := by rw [HS.out.2.1, h3]
    have tr : R.toList.isEmpty = true := by rw [ByteArray.toList_eq, hRe]; rfl
    have HWk : Hid (∀ W, Calls Tryz.prog 51 #[.string S] W fun e w' => ∃ x y c d : Int, e = .returned (.tuple #[.agg #[.int .i64 x, .int .i64 y], .agg #[.int .i64 c, .int .i64 d]]) ∧ WdOut (TR.steps P) x y c d ∧ Below W.heap.size W w') := fun W => by
      have h5 := walk_any (TR.steps P) W (by unfold TR.steps; rw [List.length_map]; exact h2)
      rw [TR.steps_back h4, ← HS.out.1] at h5
      exact h5
    have HOk : Hid (P.length ≤ 20000 ∧ ∀ c ∈ P, TR.okb c = true) := ⟨h2, h4⟩
    clear h1 h2 h3 h4 HTf hRe
    go_wp2_with fail
    rw [← hW0]
    simp only [← hb3]
    simp only [← hb2]
    clear hW0 hb2 hb3
    refine (HTl.out W0).mono ?_
    rintro e w5 ⟨rfl, k5⟩
    have K5 : Hid (Sv b2 0 0 w5 ∧ Sv b3 0 0 w5 ∧ Below w.heap.size w w5) := ⟨K0.out.1.below k5, K0.out.2.1.below k5, K0.out.2.2.trans (k5.mono K0.out.2.2.size)⟩
    clear k5 K0 HTl
    go_wp2_with fail
    refine (HWk.out w5).mono ?_
    rintro e w1 ⟨x, y, c, d, rfl, hwd, k1⟩
    have K1 : Hid (Sv b2 0 0 w1 ∧ Sv b3 0 0 w1 ∧ Below w.heap.size w w1) := ⟨K5.out.1.below k1, K5.out.2.1.below k1, K5.out.2.2.trans (k1.mono K5.out.2.2.size)⟩
    have HC : Hid (NdIs P x y c d) := .inr ⟨HOk.out.1, HOk.out.2, hwd⟩
    clear k1 K5 HWk hwd tr
    have HF : Hid (Sv b2 x y ((((w1.setCell ⟨b2, 0, none⟩ (.int .i64 x)).setCell ⟨b2, 1, none⟩ (.int .i64 y)).setCell ⟨b3, 0, none⟩ (.int .i64 c)).setCell ⟨b3, 1, none⟩ (.int .i64 (d : Int))) ∧ Sv b3 c d ((((w1.setCell ⟨b2, 0, none⟩ (.int .i64 x)).setCell ⟨b2, 1, none⟩ (.int .i64 y)).setCell ⟨b3, 0, none⟩ (.int .i64 c)).setCell ⟨b3, 1, none⟩ (.int .i64 (d : Int))) ∧ Below w.heap.size w ((((w1.setCell ⟨b2, 0, none⟩ (.int .i64 x)).setCell ⟨b2, 1, none⟩ (.int .i64 y)).setCell ⟨b3, 0, none⟩ (.int .i64 c)).setCell ⟨b3, 1, none⟩ (.int .i64 (d : Int)))) :=
      ⟨(K1.out.1.set _ _).other _ _ n4, (K1.out.2.1.other _ _ n3).set _ _, (((K1.out.2.2.setCell z2 _).setCell z2 _).setCell z3 _).setCell z3 _⟩
    have r0 := K1.out.1.c0
    have r1 := K1.out.1.c1
    have r2 := K1.out.1.f0
    have r3 := K1.out.1.f1
    have r4 := K1.out.2.1.c0
    have r5 := K1.out.2.1.c1
    have r6 := K1.out.2.1.f0
    have r7 := K1.out.2.1.f1
    have r8 := K1.out.1.lt
    have r9 := K1.out.2.1.lt
    clear K1
    go_wp2
    have e0 := HF.out.1.c0
    have e1 := HF.out.1.c1
    have e2 := HF.out.2.1.c0
    have e3 := HF.out.2.1.c1
    exact bodyPost_ret (v := .tuple #[.agg #[.int .i64 x, .int .i64 y], .agg #[.int .i64 c, .int .i64 (d : Int)]]) (by simp [results, Tryz.results20, go_sem, e0, e1, e2, e3]) rfl ⟨x, y, c, (d : Int), rfl, HC.out, HF.out.2.2⟩
  · have tn : decide (20000 < (n : Int)) = false := decide_eq_false (by have := HS.out.2.2.1; omega)
    have tn2 : decide (20000 < n) = false := decide_eq_false (by have := HS.out.2.2.1; omega)
    have hRe : R ≠ ⟨#[]⟩ := fun e => by
      have h5 := hrz
      rw [e] at h5
      have h6 := HS.out.2.2.2
      have h7 : m = 0 := h5.symm
      rw [h7] at h6
      exact h3 (List.eq_nil_of_length_eq_zero h6.symm)
    have tr : R.toList.isEmpty = false := by
      rw [ByteArray.toList_eq]
      cases h : R.data.toList with
      | nil =>
        exfalso
        apply hRe
        apply ByteArray.ext
        exact Array.toList_inj.1 h
      | cons a t => rfl
    obtain ⟨k, hk⟩ : ∃ k, k = n - m := ⟨_, rfl⟩
    have hmn : m ≤ n := by have := HS.out.2.2.1; have := HS.out.2.2.2; omega
    have ek : (n : Int) - (m : Int) = (k : Int) := by omega
    have wk : IntKind.i64.wrap (k : Int) = (k : Int) := by rw [IntKind.wrap_i64]; omega
    have HC : Hid (NdIs P 0 0 1 (k : Int)) := .inl ⟨by rw [h1]; exact Int.one_ne_zero, by rw [h1, hk, HS.out.2.2.1, HS.out.2.2.2], rfl, rfl⟩
    clear h1 h2 h3 h4 HTf hk
    go_wp2_with fail
    rw [← hW0]
    simp only [← hb3]
    simp only [← hb2]
    clear hW0 hb2 hb3
    refine (HTl.out W0).mono ?_
    rintro e w1 ⟨rfl, k5⟩
    have K1 : Hid (Sv b2 0 0 w1 ∧ Sv b3 0 0 w1 ∧ Below w.heap.size w w1) := ⟨K0.out.1.below k5, K0.out.2.1.below k5, K0.out.2.2.trans (k5.mono K0.out.2.2.size)⟩
    clear k5 K0 HTl
    have HF : Hid (Sv b2 0 0 ((((w1.setCell ⟨b2, 0, none⟩ (.int .i64 0)).setCell ⟨b2, 1, none⟩ (.int .i64 0)).setCell ⟨b3, 0, none⟩ (.int .i64 1)).setCell ⟨b3, 1, none⟩ (.int .i64 (k : Int))) ∧ Sv b3 1 k ((((w1.setCell ⟨b2, 0, none⟩ (.int .i64 0)).setCell ⟨b2, 1, none⟩ (.int .i64 0)).setCell ⟨b3, 0, none⟩ (.int .i64 1)).setCell ⟨b3, 1, none⟩ (.int .i64 (k : Int))) ∧ Below w.heap.size w ((((w1.setCell ⟨b2, 0, none⟩ (.int .i64 0)).setCell ⟨b2, 1, none⟩ (.int .i64 0)).setCell ⟨b3, 0, none⟩ (.int .i64 1)).setCell ⟨b3, 1, none⟩ (.int .i64 (k : Int)))) :=
      ⟨(K1.out.1.set _ _).other _ _ n4, (K1.out.2.1.other _ _ n3).set _ _, (((K1.out.2.2.setCell z2 _).setCell z2 _).setCell z3 _).setCell z3 _⟩
    have r0 := K1.out.1.c0
    have r1 := K1.out.1.c1
    have r2 := K1.out.1.f0
    have r3 := K1.out.1.f1
    have r4 := K1.out.2.1.c0
    have r5 := K1.out.2.1.c1
    have r6 := K1.out.2.1.f0
    have r7 := K1.out.2.1.f1
    have r8 := K1.out.1.lt
    have r9 := K1.out.2.1.lt
    clear K1
    go_wp2
    have e0 := HF.out.1.c0
    have e1 := HF.out.1.c1
    have e2 := HF.out.2.1.c0
    have e3 := HF.out.2.1.c1
    exact bodyPost_ret (v := .tuple #[.agg #[.int .i64 0, .int .i64 0], .agg #[.int .i64 1, .int .i64 (k : Int)]]) (by simp [results, Tryz.results20, go_sem, e0, e1, e2, e3]) rfl ⟨0, 0, 1, (k : Int), rfl, HC.out, HF.out.2.2⟩
end Go.Proofs.YtcnfhndejkngkaaGreatDoor
end
