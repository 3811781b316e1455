import Derived.Test.YtidndbdjhapfaaaGreatDoorPaC
import Derived.Test.YtidndbdjhapfaaaGreatDoorBkA
import Derived.Test.YtidndbdjhapfaaaGreatDoorBigP
import Derived.Test.YtidndbdjhapfaaaGreatDoorJoinA
import Derived.Test.YtidndbdjhapfaaaGreatDoorJoinF
section
/- The reference's PolyFault, At. -/
set_option linter.unusedSimpArgs false
set_option linter.unusedVariables false
set_option maxRecDepth 100000
namespace Go.Proofs.YtidndbdjhapfaaaGreatDoor
open Go.RowKit

theorem field_faultP (w : World) (x y : Int) : (Instr.field 25 (.agg #[.int .i64 x, .int .i64 y]) 0).run Tryz.prog w = .ok (.int .i64 x) w := by
  kernel_rfl

theorem nf_bad (xs : List Int) (h : ∃ i, i < xs.length ∧ numB (xs.getD i 0) = false) : (nf 0 xs).1 ≠ 0 := by
  obtain ⟨i, hi, hb⟩ := h
  have : ∃ k, k < xs.length ∧ (∀ j, j < k → numB (xs.getD j 0) = true) ∧ numB (xs.getD k 0) = false := by
    induction i using Nat.strongRecOn with
    | ind i ih =>
      by_cases hx : ∃ j, j < i ∧ numB (xs.getD j 0) = false
      · obtain ⟨j, hj, hj2⟩ := hx
        exact ih j hj (by omega) hj2
      · refine ⟨i, hi, fun j hj => ?_, hb⟩
        cases hc : numB (xs.getD j 0)
        · exact absurd ⟨j, hj, hc⟩ hx
        · rfl
  obtain ⟨k, hk, h1, h2⟩ := this
  rw [nf_hit xs k hk h1 h2]
  simp

theorem refNumbersFault_nil (l : List Int) (aa : Option Addr) (cap : Nat) (w : World) (h : l.length = 0) :
    Calls Tryz.prog 21 #[.slice aa l.length cap] w fun e w' => e = .returned (.agg #[.int .i64 (nf 0 l).1, .int .i64 (nf 0 l).2]) ∧ Below w.heap.size w w' := by
  obtain rfl : l = [] := List.eq_nil_of_length_eq_zero h
  clear h
  go_enter Tryz.func21, Tryz.ntmps21
  go_wp2
  go_loop [3] (fun i => i = .int .i64 0) (fun _ => 0)
  case atStart => rfl
  case round =>
    obtain rfl := hrel
    go_wp2
    exact bodyPost_ret (v := .agg #[.int .i64 0, .int .i64 0]) (by simp [results, Tryz.results21, go_sem]) rfl ⟨rfl, Below.alloc (Below.refl _ _) (Nat.le_refl _) _⟩

set_option maxHeartbeats 400000 in
theorem refPolyFault_any (s : Value) (l : List Int) (c a : Int) (w : World) (hs : IS w s l) (hl : l.length ≤ 9000000000000000000) (h : Plf l c a) :
    Calls Tryz.prog 7 #[s] w fun e w' => e = .returned (.agg #[.int .i64 c, .int .i64 a]) ∧ Below w.heap.size w w' := by
  have HIS : Hid (IS w s l) := hs
  have HS0 : Hid (Sv w.heap.size 0 0 (w.alloc (.cells #[.int .i64 0, .int .i64 0] 25))) := Sv.new 0 0 w
  have HK0 : Hid (Below w.heap.size w (w.alloc (.cells #[.int .i64 0, .int .i64 0] 25))) := (Below.refl _ w).alloc (Nat.le_refl _) _
  obtain ⟨aa, g, o, cap, rfl, haa, hc, hg⟩ := hs
  rcases h with ⟨h1, rfl, rfl⟩ | h
  · have hb : decide (13 < (l.length : Int)) = true := decide_eq_true (by omega)
    clear haa hc hg
    go_enter Tryz.func7, Tryz.ntmps7
    go_wp2_with fail
    refine (F_any 2 2 _).mono ?_
    rintro e w3 ⟨rfl, k3⟩
    have S3 := HS0.out.below k3
    have K3 := HK0.out.trans (k3.mono (by simp))
    have q0 := S3.c0
    have q1 := S3.c1
    have q2 := S3.f0
    have q3 := S3.f1
    have z0 := (S3.set 2 2).c0
    have z1 := (S3.set 2 2).c1
    clear S3 k3
    go_wp2
    exact bodyPost_ret (v := .agg #[.int .i64 2, .int .i64 2]) (by simp [results, Tryz.results7, go_sem, z0, z1]) rfl ⟨rfl, (K3.setCell (by simp) _).setCell (by simp) _⟩
  · have h13 : l.length ≤ 13 := by rcases h with h | h <;> exact h.1
    have hb : decide (13 < (l.length : Int)) = false := decide_eq_false (by omega)
    have HNF : Hid (∀ w, IS w (.slice aa l.length cap) l → Calls Tryz.prog 21 #[.slice aa l.length cap] w fun e w' => e = .returned (.agg #[.int .i64 (nf 0 l).1, .int .i64 (nf 0 l).2]) ∧ Below w.heap.size w w') := by
      intro w h
      obtain ⟨aa', g', o', cap', h1, h2, h3, h4⟩ := h
      injection h1 with e1 e2 e3
      subst e1 e3
      by_cases h0 : 0 < l.length
      · rw [h2 h0]
        exact refNumbersFault_any l g' o' _ w (by omega) (h4 h0) h3
      · exact refNumbersFault_nil l aa cap w (by omega)
    have HH : Hid ((l.length ≤ 13 ∧ (∃ i, i < l.length ∧ numB (l.getD i 0) = false) ∧ c = 3 ∧ a = 2) ∨ (l.length ≤ 13 ∧ (∀ i, i < l.length → numB (l.getD i 0) = true) ∧ c = 0 ∧ a = 0)) := h
    clear haa hc hg h
    obtain ⟨f1, f2, hf⟩ : ∃ f1 f2, nf 0 l = (f1, f2) := ⟨_, _, rfl⟩
    have HF : Hid (nf 0 l = (f1, f2)) := hf
    rw [hf] at HNF
    simp only at HNF
    clear hf
    have hfld : ∀ w : World, (Instr.field 25 (.agg #[.int .i64 f1, .int .i64 f2]) 0).run Tryz.prog w = .ok (.int .i64 f1) w := fun w => field_faultP w f1 f2
    go_enter Tryz.func7, Tryz.ntmps7
    go_wp2_with fail
    refine (HNF.out _ (HIS.out.belowP ((Below.refl _ w).alloc (Nat.le_refl _) _))).mono ?_
    rintro e w1 ⟨rfl, k1⟩
    have S1 := HS0.out.below k1
    have K1 := HK0.out.trans (k1.mono (by simp))
    have HS1 : Hid (Sv w.heap.size 0 0 w1) := S1
    have HK1 : Hid (Below w.heap.size w w1) := K1
    have q0 := S1.c0
    have q1 := S1.c1
    have q2 := S1.f0
    have q3 := S1.f1
    clear S1 K1 k1
    rcases HH.out with ⟨_, h, rfl, rfl⟩ | ⟨_, h, rfl, rfl⟩
    · have hne : (f1 != 0) = true := by
        have := nf_bad l h
        rw [HF.out] at this
        simpa [bne] using this
      clear h
      go_wp2_with fail
      refine (F_any 3 2 _).mono ?_
      rintro e w3 ⟨rfl, k3⟩
      have S3 := HS1.out.below k3
      have K3 := HK1.out.trans (k3.mono (by have := HS1.out.lt; omega))
      clear q0 q1 q2 q3
      have q0 := S3.c0
      have q1 := S3.c1
      have q2 := S3.f0
      have q3 := S3.f1
      have z0 := (S3.set 3 2).c0
      have z1 := (S3.set 3 2).c1
      clear S3 k3
      go_wp2
      exact bodyPost_ret (v := .agg #[.int .i64 3, .int .i64 2]) (by simp [results, Tryz.results7, go_sem, z0, z1]) rfl ⟨rfl, (K3.setCell (by simp) _).setCell (by simp) _⟩
    · have h0 : f1 = 0 := by
        have := nf_none l h
        rw [HF.out] at this
        injection this
      subst h0
      clear h
      go_wp2
      have z0 := (HS1.out.set 0 0).c0
      have z1 := (HS1.out.set 0 0).c1
      exact bodyPost_ret (v := .agg #[.int .i64 0, .int .i64 0]) (by simp [results, Tryz.results7, go_sem, z0, z1]) rfl ⟨rfl, (HK1.out.setCell (by simp) _).setCell (by simp) _⟩

end Go.Proofs.YtidndbdjhapfaaaGreatDoor
end

section
/- The reference's At. -/
set_option linter.unusedSimpArgs false
set_option linter.unusedVariables false
set_option maxRecDepth 100000
namespace Go.Proofs.YtidndbdjhapfaaaGreatDoor
open Go.RowKit

theorem pw13 : 13 * pw 27 < pw 28 := by decide +kernel
theorem num_pw2 {x : Int} (h : x.natAbs ≤ 1000000000000000000) : x.natAbs < pw 2 := by rw [pw_two]; omega
theorem term_lt {t x : Int} {i : Nat} (ht : t.natAbs ≤ 1000000000000000000) (hx : x.natAbs ≤ 1000000000000000000) (hi : i ≤ 12) : (t * x ^ i).natAbs < pw 27 := mulN_lt (num_pw2 ht) (ipow_lt (num_pw2 hx) i 12 hi)
theorem sum_lt {S : Int} {i : Nat} (h : S.natAbs ≤ i * pw 27) (hi : i ≤ 13) : S.natAbs < pw 28 := by
  have h1 : i * pw 27 ≤ 13 * pw 27 := Nat.mul_le_mul_right _ hi
  have := pw13
  omega
theorem sum_step {S T : Int} {i : Nat} (h : S.natAbs ≤ i * pw 27) (ht : T.natAbs < pw 27) : (S + T).natAbs ≤ (i + 1) * pw 27 := by
  rw [Nat.add_mul, Nat.one_mul]
  have := Int.natAbs_add_le S T
  omega

set_option maxHeartbeats 1000000 in
theorem refAt_any (s : Value) (l : List Int) (x : Int) (m : Nat) (w : World) (hs : IS w s l) (hl : l.length ≤ 13) (hn : ∀ i, i < l.length → numB (l.getD i 0) = true) (hx : x.natAbs ≤ 1000000000000000000) (h0 : 0 < m) (hm : m ≤ 1000000000000000000) :
    Calls Tryz.prog 9 #[s, .int .i64 x, .int .i64 m] w fun e w' => e = .returned (.int .i64 (pv l x % (m : Int))) ∧ Below w.heap.size w w' := by
  obtain ⟨aa, g, o, cap, rfl, haa, hc, hg⟩ := hs
  obtain ⟨L, hL⟩ : ∃ L, L = l.length := ⟨_, rfl⟩
  rw [← hL] at hc hn haa hl hg ⊢
  have HC : Hid (∀ i, i < L → w.cell? ⟨g, o + i, none⟩ = some (.int .i64 (l.getD i 0))) := hc
  have HN : Hid (∀ i, i < L → numB (l.getD i 0) = true) := hn
  have HAA : Hid (0 < L → aa = some ⟨g, o, none⟩) := haa
  have HG : Hid (0 < L → g < w.heap.size) := hg
  have HL : Hid (L = l.length) := hL
  have HXB : Hid (x.natAbs ≤ 1000000000000000000) := hx
  clear hc hn haa hg hL
  go_enter Tryz.func9, Tryz.ntmps9
  go_wp2_with fail
  refine (B_any 0 _ (by omega) (by omega)).mono ?_
  rintro e w1 ⟨bs, rfl, m1⟩
  have HB1 : Hid (Bk w w1 w.heap.size [(bs, 0)] []) := by
    have h : Bk w w w.heap.size [] [] := ⟨Below.refl _ _, Nat.le_refl _, by simp, by simp⟩
    exact h.made m1
  have HBS : Hid (w.heap.size ≤ bs) := m1.1
  clear m1
  go_wp2
  go_loopw [7, 8] (fun sv iv wx => ∃ i : Nat, i ≤ L ∧ iv = .int .i64 i ∧ sv = .pointer (some ⟨bs, 0, none⟩) ∧ Hid (Bk w wx w.heap.size [(bs, pv (l.take i) x)] [] ∧ (pv (l.take i) x).natAbs ≤ i * pw 27)) (fun _ iv _ => L - (intOf iv).toNat)
  case atStart => exact ⟨0, Nat.zero_le _, rfl, rfl, HB1.out, by simp [pv]⟩
  case round =>
    obtain ⟨i, hi, rfl, rfl, HR⟩ := hrel
    by_cases hlt : i < L
    · obtain rfl := HAA.out (by omega)
      obtain ⟨t, ht⟩ : ∃ t, t = l.getD i 0 := ⟨_, rfl⟩
      have ht18 : t.natAbs ≤ 1000000000000000000 := by rw [ht]; exact num_abs (HN.out i hlt)
      have hgw : g < wr.heap.size := Nat.lt_of_lt_of_le (HG.out (by omega)) HR.out.1.le
      have hcw : wr.cell? ⟨g, o + i, none⟩ = some (.int .i64 t) := by rw [ht]; exact (HR.out.1.bel.cell (p := ⟨g, o + i, none⟩) (HG.out (by omega))).trans (HC.out i hlt)
      have hcell : ∀ ob, (wr.alloc ob).cell? ⟨g, o + i, none⟩ = some (.int .i64 t) := fun ob => (cell_old_at wr ob _ hgw).trans hcw
      obtain ⟨S, hS⟩ : ∃ S, S = pv (l.take i) x := ⟨_, rfl⟩
      have HSi : Hid (Bk w wr w.heap.size [(bs, S)] [] ∧ S.natAbs ≤ i * pw 27) := by rw [hS]; exact HR.out
      have HSt : Hid (pv (l.take (i + 1)) x = S + t * x ^ i) := by
        show _ = _
        rw [pv_take x l i (by rw [← HL.out]; exact hlt), ← hS, ← ht]
      have HBS2 : Hid (bs < wr.heap.size) := (HSi.out.1.big (bs, S) (by simp)).lt
      have HTL : Hid (t.natAbs ≤ 1000000000000000000) := ht18
      obtain ⟨U, hU⟩ : ∃ U, U = wr.alloc (.cells #[.bool false, .slice none 0 0] 43) := ⟨_, rfl⟩
      have HU : Hid (Bk w U w.heap.size [(bs, S)] [wr.heap.size]) := by rw [hU]; exact HSi.out.1.alloc _ _
      have zU : U.heap.size = wr.heap.size + 1 := by rw [hU]; simp
      have hUc : U.cell? ⟨g, o + i, none⟩ = some (.int .i64 t) := by rw [hU]; exact hcell _
      have HZU : Hid (U.heap.size = wr.heap.size + 1) := zU
      clear ht hS HR hgw hcw zU
      go_wp2_with fail
      rw [← hU]
      clear hcell hU hUc
      refine (B_any t _ (by omega) (by omega)).mono ?_
      rintro e v1 ⟨b1, rfl, m1⟩
      have g1 := m1.1
      have l1 := m1.2.1.lt
      have H1 : Hid (Bk w v1 w.heap.size [(b1, t), (bs, S)] [wr.heap.size]) := HU.out.made m1
      have HG1 : Hid (wr.heap.size < b1 ∧ b1 < v1.heap.size) := ⟨by have := HZU.out; omega, l1⟩
      clear m1 g1 l1 HU
      have H2 : Hid (Bk w (v1.alloc (.cells #[.bool false, .slice none 0 0] 43)) w.heap.size [(b1, t), (bs, S)] [v1.heap.size, wr.heap.size]) := H1.out.alloc _ _
      go_wp2_with fail
      refine (B_any x _ (by omega) (by omega)).mono ?_
      rintro e v2 ⟨b2, rfl, m2⟩
      have H3 : Hid (Bk w v2 w.heap.size [(b2, x), (b1, t), (bs, S)] [v1.heap.size, wr.heap.size]) := H2.out.made m2
      have HG2 : Hid (v1.heap.size < b2) := by have := m2.1; simp at this; exact this
      clear m2 H2 H1
      go_wp2_with fail
      refine (B_any (i : Int) _ (by omega) (by omega)).mono ?_
      rintro e v3 ⟨b3, rfl, m3⟩
      have H4 : Hid (Bk w v3 w.heap.size [(b3, (i : Int)), (b2, x), (b1, t), (bs, S)] [v1.heap.size, wr.heap.size]) := H3.out.made m3
      clear m3 H3
      go_wp2_with fail
      refine (Exp_nil v1.heap.size b2 b3 x i 2 2 v3 (H4.out.fr _ (by simp)) (H4.out.big (b2, x) (by simp)) (H4.out.big (b3, (i : Int)) (by simp)) (num_pw2 HXB.out) (by rw [pw_two]; omega) (by omega) (by omega) (by omega)).mono ?_
      rintro e v4 ⟨rfl, h4, u4⟩
      have H5 : Hid (Bk w v4 w.heap.size [(v1.heap.size, x ^ i), (b1, t), (bs, S)] [wr.heap.size]) := H4.out.upd (H4.out.fr _ (by simp)) (by have := HG1.out; have := HBS.out; have := HBS2.out; omega) h4 u4 (by have := HG1.out; have := HBS2.out; simp; omega) (by have := HG1.out; simp; omega)
      clear h4 u4 H4
      obtain ⟨E, hE⟩ : ∃ E, E = x ^ i := ⟨_, rfl⟩
      have HE : Hid (E.natAbs < pw 25) := by rw [hE]; exact ipow_lt (num_pw2 HXB.out) i 12 (by omega)
      have HT : Hid ((t * E).natAbs < pw 27) := by rw [hE]; exact term_lt HTL.out HXB.out (by omega)
      rw [← hE] at H5 HSt
      clear hE
      go_wp2_with fail
      refine (Mul_any wr.heap.size b1 v1.heap.size t E 2 25 v4 (H5.out.fr _ (by simp)) (H5.out.big (b1, t) (by simp)) (H5.out.big (v1.heap.size, E) (by simp)) (num_pw2 HTL.out) HE.out (by omega) (by omega)).mono ?_
      rintro e v5 ⟨rfl, h5, u5⟩
      have H6 : Hid (Bk w v5 w.heap.size [(wr.heap.size, t * E), (bs, S)] []) := H5.out.upd (H5.out.fr _ (by simp)) (by have := HBS.out; have := HBS2.out; omega) h5 u5 (by have := HBS2.out; simp; omega) (by simp)
      clear h5 u5 H5
      have b1' : BigAt v5 bs S := H6.out.big (bs, S) (by simp)
      have b2' : BigAt v5 wr.heap.size (t * E) := H6.out.big (wr.heap.size, t * E) (by simp)
      have hS28 : S.natAbs < pw 28 := sum_lt HSi.out.2 (by omega)
      have HADD : Hid (Calls Tryz.prog 22 #[.pointer (some ⟨bs, 0, none⟩), .pointer (some ⟨bs, 0, none⟩), .pointer (some ⟨wr.heap.size, 0, none⟩)] v5 fun e w' => e = .returned (.pointer (some ⟨bs, 0, none⟩)) ∧ BigAt w' bs (S + t * E) ∧ Upd bs v5 w') := Add_any bs bs wr.heap.size S (t * E) 28 27 v5 b1'.slot b1' b2' hS28 HT.out (by omega) (by omega)
      clear b1' b2' hS28
      go_wp2_with fail
      refine HADD.out.mono ?_
      rintro e v6 ⟨rfl, h6, u6⟩
      have H7 : Hid (Bk w v6 w.heap.size [(bs, S + t * E)] []) := H6.out.upd (H6.out.big (bs, S) (by simp)).slot HBS.out h6 u6 (by simp) (by simp)
      clear h6 u6 H6
      go_wp2
      go_roundw
      case rel =>
        refine ⟨i + 1, by omega, by go_num, rfl, ?_⟩
        show _ ∧ _
        rw [HSt.out]
        exact ⟨H7.out, sum_step HSi.out.2 HT.out⟩
      case measure => simp [intOf]; omega
    · obtain rfl : i = L := by omega
      have HF : Hid (Bk w wr w.heap.size [(bs, pv l x)] [] ∧ (pv l x).natAbs ≤ i * pw 27) := by
        have := HR.out
        rw [List.take_of_length_le (by rw [← HL.out]; exact Nat.le_refl _)] at this
        exact this
      obtain ⟨S, hS⟩ : ∃ S, S = pv l x := ⟨_, rfl⟩
      have HSE : Hid (S = pv l x) := hS
      rw [← hS] at HF
      clear HR hS
      have r0 := Int.emod_nonneg S (show (m : Int) ≠ 0 by omega)
      have r1 := Int.emod_lt_of_pos S (show 0 < (m : Int) by omega)
      obtain ⟨R, hR⟩ : ∃ R, R = S % (m : Int) := ⟨_, rfl⟩
      have HRR : Hid (S % (m : Int) = R) := hR.symm
      rw [← hR] at r0 r1
      clear hR
      go_wp2_with fail
      refine (B_any (m : Int) _ (by omega) (by omega)).mono ?_
      rintro e v1 ⟨b1, rfl, m1⟩
      have H1 : Hid (Bk w v1 w.heap.size [(b1, (m : Int)), (bs, S)] []) := HF.out.1.made m1
      have HNE : Hid (b1 ≠ bs) := by have := m1.1; have := (HF.out.1.big (bs, S) (by simp)).lt; show _ ≠ _; simp only at *; omega
      clear m1
      go_wp2_with fail
      refine (Mod_any bs bs b1 S (m : Int) 28 2 v1 (H1.out.big (bs, S) (by simp)).slot (H1.out.big (bs, S) (by simp)) (H1.out.big (b1, (m : Int)) (by simp)) (by omega) (sum_lt HF.out.2 (by omega)) (by rw [pw_two]; omega) (by omega) (by omega)).mono ?_
      rw [HRR.out]
      rintro e v2 ⟨rfl, h2, u2⟩
      have H2 : Hid (Bk w v2 w.heap.size [(bs, R)] []) := H1.out.upd (H1.out.big (bs, S) (by simp)).slot HBS.out h2 u2 (by simp) (by simp)
      clear h2 u2 H1
      go_wp2_with fail
      refine (Int64_any bs R v2 (H2.out.big (bs, R) (by simp)) (by omega)).mono ?_
      rintro e v3 ⟨rfl, q3, rfl⟩
      go_wp2
      go_ret
      rw [← HSE.out, HRR.out]
      exact ⟨rfl, below_drewN' H2.out.bel⟩

end Go.Proofs.YtidndbdjhapfaaaGreatDoor
end
