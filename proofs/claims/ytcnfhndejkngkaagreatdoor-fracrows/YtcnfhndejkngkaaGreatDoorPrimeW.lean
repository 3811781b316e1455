import Derived.Test.YtcnfhndejkngkaaGreatDoorJpR
import Derived.Test.YtcnfhndejkngkaaGreatDoorPwB
set_option linter.unusedSimpArgs false
set_option linter.unusedVariables false
set_option maxRecDepth 100000
namespace Go.Proofs.YtcnfhndejkngkaaGreatDoor
open Go.RowKit
attribute [local go_sem] Oper.semAt_some
structure Pmv (r : List Int) : Prop where
  mem : ∀ y ∈ r, ∃ q : Nat, y = q ∧ Pr q
  sort : r.Pairwise (· ≤ ·)
theorem Pmv.tail {x : Int} {r : List Int} (h : Pmv (x :: r)) : Pmv r := ⟨fun y hy => h.mem y (List.mem_cons_of_mem _ hy), (List.pairwise_cons.1 h.sort).2⟩
theorem Pmv.right {d r : List Int} (h : Pmv (d ++ r)) : Pmv r := ⟨fun y hy => h.mem y (List.mem_append_right _ hy), (List.pairwise_append.1 h.sort).2.1⟩
theorem Pmv.two {r : List Int} (h : Pmv r) {y : Int} (hy : y ∈ r) : 2 ≤ y := by
  obtain ⟨q, rfl, hq⟩ := h.mem y hy
  have := hq.1; omega
theorem pm_pos {r : List Int} (h : Pmv r) : 1 ≤ prd r := by
  induction r with
  | nil => decide
  | cons a t ih =>
    have h1 := h.two (y := a) (by simp)
    have h2 := ih h.tail
    show 1 ≤ a * prd t
    have := Int.mul_le_mul (show 1 ≤ a by omega) h2 (by omega) (by omega)
    omega
theorem pm_mem {r : List Int} (h : Pmv r) {x : Nat} (hx : Pr x) (hd : (x : Int) ∣ prd r) : (x : Int) ∈ r := by
  induction r with
  | nil =>
    have h1 := Int.le_of_dvd (by decide) hd
    have h2 := hx.1
    simp only [prd] at h1
    omega
  | cons a t ih =>
    obtain ⟨q, rfl, hq⟩ := h.mem a (by simp)
    have h1 : x ∣ q * (prd t).natAbs := by
      have := Int.natAbs_dvd_natAbs.2 hd
      rw [show prd ((q : Int) :: t) = (q : Int) * prd t from rfl, Int.natAbs_mul] at this
      simpa using this
    rcases pr_mul hx h1 with h2 | h2
    · rcases hq.2 x h2 with e | e
      · have := hx.1; omega
      · subst e; simp
    · exact List.mem_cons_of_mem _ (ih h.tail (Int.natAbs_dvd_natAbs.1 (by simpa using h2)))
theorem pm_head {r : List Int} (h : Pmv r) {x : Int} (hx : x ∈ r) (hle : ∀ y ∈ r, x ≤ y) : ∃ t, r = x :: t := by
  cases r with
  | nil => simp at hx
  | cons a t =>
    have h1 := hle a (by simp)
    rcases List.mem_cons.1 hx with h2 | h2
    · exact ⟨t, by rw [h2]⟩
    · have h3 := (List.pairwise_cons.1 h.sort).1 x h2
      exact ⟨t, by rw [show a = x by omega]⟩
theorem pm_next {B : Nat} {r pre : List Int} (h : Pmv r) {x : Int} (hpre : pre ++ [x] <+: befP (B + 1)) (hn : ∀ y ∈ r, y ∉ pre) : ∀ y ∈ r, x ≤ y := by
  intro y hy
  refine Classical.byContradiction fun hlt => ?_
  obtain ⟨q, rfl, hq⟩ := h.mem y hy
  obtain ⟨t, ht⟩ := hpre
  have hxm : x ∈ befP (B + 1) := by rw [← ht]; simp
  obtain ⟨z, rfl, hz, _⟩ := (befP_mem _ _).1 hxm
  have hqm : (q : Int) ∈ befP (B + 1) := (befP_mem _ _).2 ⟨q, rfl, by omega, hq⟩
  have hinc := befP_inc (B + 1)
  rw [← ht] at hqm hinc
  rcases List.mem_append.1 hqm with h1 | h1
  · rcases List.mem_append.1 h1 with h2 | h2
    · exact hn _ hy h2
    · simp at h2; omega
  · have := (List.pairwise_append.1 hinc).2.2 (z : Int) (by simp) (q : Int) h1
    omega
theorem pm_short {r : List Int} (h : Pmv r) {x : Int} (hx : 2 ≤ x) (hle : ∀ y ∈ r, x ≤ y) (hlt : prd r < x * x) : r = [] ∨ ∃ q, r = [q] := by
  cases r with
  | nil => exact .inl rfl
  | cons a t =>
    right
    cases t with
    | nil => exact ⟨a, rfl⟩
    | cons b t =>
      exfalso
      have h1 := hle a (by simp)
      have h2 := hle b (by simp)
      have h3 := pm_pos h.tail.tail
      have e : prd (a :: b :: t) = a * (b * prd t) := rfl
      have h4 : b * 1 ≤ b * prd t := Int.mul_le_mul_of_nonneg_left h3 (by omega)
      have h5 : x * x ≤ a * (b * prd t) := Int.mul_le_mul h1 (by omega) (by omega) (by omega)
      omega
theorem pr_1009 : Pr 1009 := by
  have h : ∀ e, e < 32 → 2 ≤ e → 1009 % e ≠ 0 := by decide +kernel
  refine ⟨by decide, fun d hd => ?_⟩
  obtain ⟨c, hc⟩ := hd
  by_cases h1 : d = 1
  · exact .inl h1
  · by_cases h2 : c = 1
    · rw [h2, Nat.mul_one] at hc; exact .inr hc.symm
    · exfalso
      have hd0 : d ≠ 0 := by rintro rfl; simp at hc
      have hc0 : c ≠ 0 := by rintro rfl; simp at hc
      rcases Nat.lt_or_ge d 32 with h3 | h3
      · exact h d h3 (by omega) (by rw [hc]; exact Nat.mul_mod_right ..)
      · rcases Nat.lt_or_ge c 32 with h4 | h4
        · exact h c h4 (by omega) (by rw [hc]; exact Nat.mul_mod_left ..)
        · have := Nat.mul_le_mul h3 h4; omega
set_option maxHeartbeats 400000 in
theorem appendGreat_pr (N : Nat) (hN : Pr N) (hN6 : N ≤ 1000000) (a : Option Addr) (c B k : Nat) (l : List Int) (w : World) (hk : k = l.length) (hl : k ≤ 100) (hB : B ≤ w.heap.size) (row : w.ownsRow B 3 1 (.slice a k c) k (ints l)) (hT : Tb w) :
    Calls Tryz.prog 178 #[.slice a k c, .int .i64 N] w fun e w' => ∃ g c', e = .returned (.slice (some ⟨g, 0, none⟩) (k + 1) c') ∧ w'.ownsRow B 3 1 (.slice (some ⟨g, 0, none⟩) (k + 1) c') (k + 1) (ints (l ++ [(N : Int)])) ∧ Below B w w' := by
  have HIP : Hid (Calls Tryz.prog 182 #[.int .i64 N] w fun e w' => e = .returned (.bool true) ∧ Below w.heap.size w w') := isPrime_any N true w hN.1 hN6 ⟨fun _ => hN, fun _ => rfl⟩ hT
  obtain ⟨i0, hi, hz0, hz1, hz2⟩ := info_parts Tryz.infoInt
  have HI : Hid (Tryz.prog.info? 3 = some i0 ∧ i0.zero = some (.int .i64 0) ∧ i0.size = 1 ∧ i0.bytes = 8) := ⟨hi, hz0, hz1, hz2⟩
  have HRow : Hid (w.ownsRow B 3 1 (.slice a k c) k (ints l)) := row
  have hN2 := hN.1
  have hN1 : ((N : Int) == 1) = false := beq_eq_false_iff_ne.2 (by omega)
  clear hi hz0 hz1 hz2 row hN hk hT
  go_enter Tryz.func178, Tryz.ntmps178
  go_wp2_with fail
  refine HIP.out.mono ?_
  rintro e w1 ⟨rfl, k1⟩
  have z1 := k1.size
  have K1 : Hid (Below w.heap.size w w1) := k1
  have R1 : Hid (w1.ownsRow B 3 1 (.slice a k c) k (ints l)) := row_kept HRow.out (fun g e => k1.block g (HRow.out.lt g e).2)
  clear k1 HRow
  go_wp2_with (at_builtin; refine wpList_append_own _ rfl _ _ 65 rfl B 3 i0 (.int .i64 0) 1 8 Tryz.underlying65 HI.out.1 HI.out.2.1 HI.out.2.2.1 HI.out.2.2.2 rfl (by decide) (.slice a k c) k (ints l) rfl (R1.out.alloc _) ⟨w1.heap.size, 0, none⟩ 1 1 [.int .i64 (N : Int)] rfl rfl (cell_one_new _ _ _) (by simp [Value.oneCell']) (by simp only [maxLen]; omega) (by omega) (by simp; omega) ?_; intro v' w2 hown' hgrow _; obtain ⟨g', cap', rfl⟩ := ownsRow_succ hown')
  have hb : Below B w w2 := ((K1.out.mono hB).alloc (by omega) _).grown hgrow (by simp; omega) (fun k e => (R1.out.lt k e).1)
  have HB : Hid (Below B w w2) := hb
  have HO : Hid (w2.ownsRow B 3 1 (.slice (some ⟨g', 0, none⟩) (k + 1) cap') (k + 1) (ints (l ++ [(N : Int)]))) := by
    rw [ints, List.map_append]; exact hown'
  clear hb hown' hgrow
  go_wp2
  go_ret
  exact ⟨g', cap', rfl, HO.out, HB.out⟩
set_option maxHeartbeats 2000000 in
theorem factors_pm (fs : List Int) (N : Int) (hfs : Pmv fs) (hlen : fs.length ≤ 50) (hN : N = prd fs) (hN2 : N ≤ 1000000) (w : World) (hT : Tb w) : Calls Tryz.prog 168 #[.int .i64 N] w (FacPost fs w) := by
  obtain ⟨i0, hi, hz0, hz1, hz2⟩ := info_parts Tryz.infoInt
  have HI : Hid (Tryz.prog.info? 3 = some i0 ∧ i0.zero = some (.int .i64 0) ∧ i0.size = 1 ∧ i0.bytes = 8) := ⟨hi, hz0, hz1, hz2⟩
  have HFS : Hid (Pmv fs) := hfs
  have HLE : Hid (fs.length ≤ 50) := hlen
  have HN : Hid (N = prd fs) := hN
  have HBig : Hid (N ≤ 1000000) := hN2
  have HPos : Hid (∀ d r, fs = d ++ r → 1 ≤ prd r ∧ prd r ≤ 1000000) := by
    intro d r e
    have h1 : ∀ d : List Int, Pmv (d ++ r) → prd r ≤ prd (d ++ r) := by
      intro d
      induction d with
      | nil => intro _; exact Int.le_refl _
      | cons a t ih =>
        intro hs
        have h2 := ih hs.tail
        have h3 := hs.two (y := a) (by simp)
        have h4 := pm_pos (Pmv.right hs (d := a :: t))
        have h5 : prd (a :: t ++ r) = a * prd (t ++ r) := rfl
        have h6 := Int.mul_le_mul (show 1 ≤ a by omega) h2 (by omega) (by omega)
        omega
    have h7 := h1 d (e ▸ hfs)
    rw [← e, ← hN] at h7
    exact ⟨pm_pos (Pmv.right (e ▸ hfs)), by omega⟩
  have HT : Hid (Tb w) := hT
  clear hi hz0 hz1 hz2 hfs hlen hN hN2 hT
  refine (callsIn_wide (n := 5)).1 ?_
  refine callsIn_of_wp_marks Tryz.func168 rfl trivial ?_ rfl
  simp only [Tryz.ntmps168, List.size_toArray, List.length_cons, List.length_nil, Nat.reduceAdd, Nat.reduceSub, Array.replicate_succ, Array.replicate_zero, List.push_toArray, List.append_toArray, List.nil_append, List.cons_append]
  gi_wp2
  obtain ⟨W0, hW0⟩ : ∃ W0, W0 = (w.alloc (.cells #[.int .i64 N] 3)).alloc (.cells #[.slice none 0 0] 65) := ⟨_, rfl⟩
  rw [← hW0]
  have z0 : W0.heap.size = w.heap.size + 2 := by rw [hW0]; simp
  have v0 : Vr w.heap.size (.int .i64 N) W0 := by
    rw [hW0]; exact ⟨by rw [cell_old_at _ _ _ (by simp), cell_new_at _ _ _ _ _ rfl]; rfl, by rw [frozen_old_at _ _ _ (by simp), frozen_new_at _ _ _ _ _ rfl]⟩
  have v1 : Vr (w.heap.size + 1) (.slice none 0 0) W0 := by
    rw [hW0]; exact ⟨by rw [cell_new_at _ _ _ _ _ (by simp)]; rfl, by rw [frozen_new_at _ _ _ _ _ (by simp)]⟩
  have k0 : Below w.heap.size w W0 := by rw [hW0]; exact ((Below.refl _ _).alloc (Nat.le_refl _) _).alloc (by simp) _
  have hs0 : FS w.heap.size w [] fs none W0 := ⟨by rw [← HN.out]; exact v0, ⟨none, 0, v1, World.ownsRow_nil _ _ _ _, fun g e => by simp⟩, k0, by omega, fun g e => by cases e⟩
  clear hW0 v0 v1 k0
  refine wpIn_rangeO (F := Fence.wide) (n := 5) rfl (by decide) (gf := 177) rfl trivial (enters_of Tryz.func177 (by kernel_rfl) rfl) (rising_upto 1009 pr_1009 (by decide) Fence.wide (5 - 1) trivial rfl (by decide)) rfl
    (fun o pre W => (∀ y ∈ pre, y ≤ 1000) ∧ ∃ d r, fs = d ++ r ∧ (∀ y ∈ r, y ∉ pre) ∧ FS w.heap.size w d r o W)
    (fun c o pre W => c = .exit 0 ∧ ∃ d r, fs = d ++ r ∧ (r = [] ∨ ∃ q, r = [q]) ∧ FS w.heap.size w d r o W)
    ?ab ?abp ?abx ⟨by simp, [], fs, rfl, by simp, hs0⟩
    (fun x => { tmps := #[.int .i64 N, .pointer (some ⟨w.heap.size, 0, none⟩), .slice none 0 0, .pointer (some ⟨w.heap.size + 1, 0, none⟩), .int .i64 x, .int .i64 x, undef, undef, undef, undef, undef, undef, undef, undef, undef, undef, undef, undef, undef, undef, undef, undef, undef, undef, undef, undef, undef, undef, undef], defers := [] }) ?assign ?body ?hend ?stop
  case ab =>
    rintro o s A B o' ⟨h0, d, r, h1, h2, h3⟩ hg ho
    exact ⟨h0, d, r, h1, h2, h3.step hg ho⟩
  case abp =>
    rintro o s A ob ⟨h0, d, r, h1, h2, h3⟩
    exact ⟨h0, d, r, h1, h2, h3.put ob _ (by omega)⟩
  case abx =>
    rintro c o s A ob ⟨h0, d, r, h1, h2, h3⟩
    exact ⟨h0, d, r, h1, h2, h3.put ob _ (by omega)⟩
  case assign =>
    intro l x W K hK
    gi_wp2
    exact hK
  case body =>
    rintro l o pre x W ⟨hp1000, d, r, hdr, hnin, hst⟩ hog hpre hz
    have HP1000 : Hid (∀ y ∈ pre, y ≤ 1000) := hp1000
    clear hp1000
    have hsr : Pmv r := Pmv.right (hdr ▸ HFS.out)
    obtain ⟨m, hm⟩ : ∃ m, m = prd r := ⟨_, rfl⟩
    have hm1 := HPos.out d r hdr
    obtain ⟨xn, hxn, hxb9, hxp⟩ := (befP_mem _ x).1 (hpre.subset (by simp))
    have hx1 : 2 ≤ x ∧ x ≤ 1009 := by have := hxp.1; omega
    have HXP : Hid (x = xn ∧ Pr xn) := ⟨hxn, hxp⟩
    clear hxn hxb9 hxp
    have hxx : 0 ≤ x * x ∧ x * x ≤ 1018081 := by
      have h1 := Int.mul_le_mul hx1.2 hx1.2 (by omega) (by omega)
      have h2 := Int.mul_nonneg (show 0 ≤ x by omega) (show 0 ≤ x by omega)
      omega
    have hx0 : (x == 0) = false := beq_eq_false_iff_ne.2 (by omega)
    have q0 := hst.n.c
    rw [← hm] at q0 hm1
    have HDR : Hid (fs = d ++ r) := hdr
    have HNI : Hid (∀ y ∈ r, y ∉ pre) := hnin
    have HSR : Hid (Pmv r) := hsr
    have HM : Hid (m = prd r) := hm
    have HPre : Hid (pre ++ [x] <+: (befP (1009 + 1))) := hpre
    have HST : Hid (FS w.heap.size w d r o W) := hst
    have HOG : Hid (∀ g, o = some g → W0.heap.size + 2 ≤ g ∧ g < W.heap.size) := hog
    have HM1 : Hid (1 ≤ m ∧ m ≤ 1000000) := hm1
    have hx2 := hx1.1
    have hx3 := hx1.2
    clear hdr hnin hsr hm hpre hst hog hx1 hm1
    by_cases hx1000 : 1000 < x
    · have hxb : decide ((1000 : Int) < x) = true := decide_eq_true hx1000
      have HSH : Hid (r = [] ∨ ∃ q, r = [q]) := by
        refine pm_short HSR.out (x := 1001) (by omega) (fun y hy => ?_) (by rw [← HM.out]; have := HM1.out; omega)
        have := pm_next HSR.out HPre.out HNI.out y hy
        omega
      gi_wp2
      exact ⟨KP.refl _ _, rfl, d, r, HDR.out, HSH.out, HST.out⟩
    have hxb : decide ((1000 : Int) < x) = false := decide_eq_false hx1000
    by_cases hsq : m < x * x
    · have hsb : decide (m < x * x) = true := decide_eq_true hsq
      have hshort := pm_short HSR.out hx2 (pm_next HSR.out HPre.out HNI.out) (by rw [← HM.out]; exact hsq)
      have HSH : Hid (r = [] ∨ ∃ q, r = [q]) := hshort
      clear hshort hsq
      gi_wp2
      exact ⟨KP.refl _ _, rfl, d, r, HDR.out, HSH.out, HST.out⟩
    · have hsb : decide (m < x * x) = false := decide_eq_false hsq
      clear hsq
      gi_wp2
      gi_loopw [15] (fun _ wx => Hid (∃ d r, fs = d ++ r ∧ (∀ y ∈ r, y ∉ pre) ∧ FS w.heap.size w d r o wx ∧ KP (keptO W0.heap.size o) W wx)) (fun _ wx => leftAt w.heap.size wx)
      case atStart => exact ⟨d, r, HDR.out, HNI.out, HST.out, KP.refl _ _⟩
      case round =>
        have HR := hrel
        clear hrel q0 hsb HDR HNI HSR HM HST HM1
        clear d r
        obtain ⟨d, r, hdr, hnin, hst, hkp⟩ := HR.out
        have hsr : Pmv r := Pmv.right (hdr ▸ HFS.out)
        obtain ⟨M, hm⟩ : ∃ M, M = prd r := ⟨_, rfl⟩
        obtain ⟨hm1, hm2⟩ := HPos.out d r hdr
        rw [← hm] at hm1 hm2
        have hdl : d.length ≤ 50 := by
          have h1 := HLE.out
          rw [hdr, List.length_append] at h1; omega
        obtain ⟨a, c, h1, h2, h3⟩ := hst.l
        obtain ⟨k, hk⟩ : ∃ k, k = d.length := ⟨_, rfl⟩
        rw [← hk] at h1 h2 h3 hdl
        have q1 := hst.n.c
        rw [← hm] at q1
        have q2 := h1.c
        have q3 := hst.n.f
        have q4 := h1.f
        have zk := hkp.size
        have HDR : Hid (fs = d ++ r) := hdr
        have HNI : Hid (∀ y ∈ r, y ∉ pre) := hnin
        have HSR : Hid (Pmv r) := hsr
        have HM : Hid (M = prd r) := hm
        have HK : Hid (k = d.length) := hk
        have HST : Hid (FS w.heap.size w d r o wr) := hst
        have HKP : Hid (KP (keptO W0.heap.size o) W wr) := hkp
        have HV2 : Hid (Vr (w.heap.size + 1) (.slice a k c) wr) := h1
        have HROW : Hid (wr.ownsRow (w.heap.size + 4) 3 1 (.slice a k c) k (ints d)) := h2
        have HNO : Hid (∀ g, (Value.slice a k c).ownBlock = some g → o ≠ some g) := h3
        have HMM : Hid (M ≤ 1000000) := hm2
        clear hdr hnin hsr hm hk hst hkp h1 h2 h3 HR hm2
        by_cases hmod : M % x = 0
        · have hmb : ((M % x) == 0) = true := by rw [hmod]; rfl
          have hxr : x ∈ r := by
            have h := pm_mem HSR.out HXP.out.2 (by rw [← HXP.out.1, ← HM.out]; exact Int.dvd_of_emod_eq_zero hmod)
            rwa [← HXP.out.1] at h
          obtain ⟨t, ht⟩ := pm_head HSR.out hxr (pm_next HSR.out HPre.out HNI.out)
          obtain ⟨q, hq⟩ : ∃ q, q = prd t := ⟨_, rfl⟩
          have hmq : M = x * q := by rw [HM.out, ht, hq]; rfl
          have hdiv : M / x = q := by rw [hmq]; exact Int.mul_ediv_cancel_left q (by omega)
          have HT : Hid (r = x :: t) := ht
          have HQ : Hid (q = prd t) := hq
          have hq1 : 1 ≤ q := by rw [hq]; exact pm_pos (Pmv.tail (ht ▸ HSR.out))
          have hqm : q < M := by
            rw [hmq]
            have := Int.mul_le_mul hx2 (Int.le_refl q) (by omega) (by omega)
            omega
          have HQ1 : Hid (1 ≤ q) := hq1
          have HQM : Hid (q < M) := hqm
          clear hmod hxr ht hq hmq hq1 hqm
          gi_wp2_with (gi_at_builtin; refine wpListIn_append_own_at _ rfl _ _ 65 rfl (w.heap.size + 4) 3 i0 (.int .i64 0) 1 8 Tryz.underlying65 HI.out.1 HI.out.2.1 HI.out.2.2.1 HI.out.2.2.2 rfl (by decide) (.slice a k c) k (ints d) rfl (HROW.out.alloc _) ⟨wr.heap.size, 0, none⟩ 1 1 [.int .i64 x] rfl rfl (cell_one_new _ _ _) (by simp [Value.oneCell']) (by simp only [maxLen]; omega) (by omega) (by simp; omega) ?_; intro v' w1 hown' hgrow _ hob; obtain ⟨g', cap', rfl⟩ := ownsRow_succ hown'; have hnb : ∀ b, b < w.heap.size + 4 → (Value.slice a k c).ownBlock ≠ some b := fun b hb e => by { have := (HROW.out.lt b e).1; omega }; have A1 : Vr w.heap.size (.int .i64 M) w1 := by { have h9 := (HST.out.n.grown (World.grownBy_alloc _ _ none) (by simp)).grown hgrow (hnb _ (by omega)); rw [← HM.out] at h9; exact h9 }; have A2 : Vr (w.heap.size + 1) (.slice a k c) w1 := (HV2.out.grown (World.grownBy_alloc _ _ none) (by simp)).grown hgrow (hnb _ (by omega)); have r1 := A1.c; have r2 := A2.c; have r3 := A1.f; have r4 := A2.f)
          have hq2 : 1 ≤ q := HQ1.out
          have hq3 : q < M := HQM.out
          have hq4 : M ≤ 1000000 := HMM.out
          have hw64 : wrap64 (M.tdiv x) = q := by
            rw [Int.tdiv_eq_ediv_of_nonneg (by omega), hdiv]; unfold wrap64; omega
          rw [hw64]
          have C1 : Vr w.heap.size (.int .i64 q) ((w1.setCell ⟨w.heap.size + 1, 0, none⟩ (.slice (some ⟨g', 0, none⟩) (k + 1) cap')).setCell ⟨w.heap.size, 0, none⟩ (.int .i64 q)) := (A1.other _ (by omega)).set _
          have C2 : Vr (w.heap.size + 1) (.slice (some ⟨g', 0, none⟩) (k + 1) cap') ((w1.setCell ⟨w.heap.size + 1, 0, none⟩ (.slice (some ⟨g', 0, none⟩) (k + 1) cap')).setCell ⟨w.heap.size, 0, none⟩ (.int .i64 q)) := (A2.set _).other _ (by omega)
          have hlen : (d ++ [x]).length = k + 1 := by rw [HK.out]; simp
          have hFS : FS w.heap.size w (d ++ [x]) t o ((w1.setCell ⟨w.heap.size + 1, 0, none⟩ (.slice (some ⟨g', 0, none⟩) (k + 1) cap')).setCell ⟨w.heap.size, 0, none⟩ (.int .i64 q)) := by
            refine ⟨by rw [← HQ.out]; exact C1, ⟨some ⟨g', 0, none⟩, cap', by rw [hlen]; exact C2, ?_, ?_⟩, ?_, ?_⟩
            · rw [hlen, show ints (d ++ [x]) = ints d ++ [.int .i64 x] by simp [ints]]
              exact ownsRow_setCell_below (ownsRow_setCell_below hown' (by show w.heap.size + 1 < _; omega) _) (by show w.heap.size < _; omega) _
            · intro g e e2
              have e3 : (Value.slice (some ⟨g', 0, none⟩) (k + 1) cap').ownBlock = some g := e
              rcases hob with h | h
              · exact HNO.out g (h ▸ e3) e2
              · rw [h] at e3
                have h5 := (HOG.out g e2).2
                simp at e3
                omega
            · exact (((HST.out.b.alloc (by have := HST.out.o.1; omega) _).grown hgrow (by simp; have := HST.out.o.1; omega) (fun r e => by have := (HROW.out.lt r e).1; omega)).setCell (by simp) _).setCell (by simp) _
            · refine HST.out.o.size ?_
              have := hgrow.size
              simp [World.setCell] at this ⊢
              omega
          refine ⟨⟨d ++ [x], t, by rw [HDR.out, HT.out]; simp, fun y hy => HNI.out y (by rw [HT.out]; exact List.mem_cons_of_mem _ hy), hFS, ?_⟩, ?_⟩
          · refine (((HKP.out.alloc _).grown hgrow (fun r e h => ?_)).setCell (fun h => ?_) _).setCell (fun h => ?_) _
            · have h5 := (HROW.out.lt r e).1
              rcases h with h | h | h
              · omega
              · omega
              · exact HNO.out r e h
            · rcases h with h | h | h
              · simp at h; omega
              · simp at h; omega
              · have := HST.out.o.2 _ h; simp at this <;> omega
            · rcases h with h | h | h
              · simp at h; omega
              · simp at h; omega
              · have := HST.out.o.2 _ h; simp at this <;> omega
          · rw [hFS.left, HST.out.left, ← HQ.out, ← HM.out]; omega
        · have hmb : ((M % x) == 0) = false := beq_eq_false_iff_ne.2 hmod
          have HMD : Hid (M % x ≠ 0) := hmod
          clear hmod
          gi_wp2
          refine ⟨HKP.out, ?_, d, r, HDR.out, fun y hy h => ?_, HST.out⟩
          · intro y hy
            rcases List.mem_append.1 hy with h | h
            · exact HP1000.out y h
            · simp at h; omega
          rcases List.mem_append.1 h with h | h
          · exact HNI.out y hy h
          · simp at h
            subst h
            exact HMD.out (by rw [HM.out]; exact Int.emod_eq_zero_of_dvd (prd_dvd hy))
  case hend =>
    rintro o W ⟨h, _⟩
    have := h 1009 ((befP_mem _ _).2 ⟨1009, rfl, by omega, pr_1009⟩)
    omega
  case stop =>
    rintro c o pre W ⟨rfl, d, r, hdr, hsh, hst⟩ hK
    obtain ⟨a, c, h1, h2, h3⟩ := hst.l
    obtain ⟨k, hk⟩ : ∃ k, k = d.length := ⟨_, rfl⟩
    have hkl : k ≤ 50 := by
      have h4 := HLE.out
      rw [hdr, List.length_append] at h4; omega
    rw [← hk] at h1 h2
    obtain ⟨m, hm⟩ : ∃ m, m = prd r := ⟨_, rfl⟩
    have q1 := hst.n.c
    rw [← hm] at q1
    have q2 := h1.c
    have zW : W0.heap.size < W.heap.size := lt_of_some hK
    have HROW : Hid (W.ownsRow (w.heap.size + 4) 3 1 (.slice a k c) k (ints d)) := h2
    have HB : Hid (Below w.heap.size w W) := hst.b
    have HK : Hid (W.heap[W0.heap.size]? = some (.deferred (some []))) := hK
    have HD : Hid (k = d.length) := hk
    have HDR : Hid (fs = d ++ r) := hdr
    have HM : Hid (m = prd r) := hm
    have HRow2 : Hid (W.ownsRow w.heap.size 3 1 (.slice a k c) k (ints d)) := ownsRow_lower h2 (by omega)
    rcases hsh with hr | ⟨q, hr⟩
    · have hm1 : m = 1 := by rw [hm, hr]; rfl
      subst hm1
      have hfd : fs = d := by rw [hdr, hr, List.append_nil]
      have HFD : Hid (fs = d) := hfd
      clear h1 h2 h3 hK hst hdr hm hr hfd hk
      gi_wp2
      refine ⟨trivial, ?_⟩
      refine (callsIn_wide.2 (appendGreat_one (.slice a k c) W)).mono ?_
      rintro e w1 ⟨rfl, rfl⟩
      gi_wp2
      have hK1 := HK.out
      rw [z0] at hK1
      refine ⟨by simp, .inl ⟨_, _, rfl, run_takeDeferred hK1, ?_⟩⟩
      refine ⟨.slice a k c, by simp [results, Tryz.f168, go_sem], ?_⟩
      have hl : fs.length = k := by rw [HFD.out]; exact HD.out.symm
      refine ⟨a, c, by rw [hl], ?_, HB.out.grown (grownBy_putObj' _ (w.heap.size + 2) (.deferred none)) HB.out.size (fun k e => by cases e; omega)⟩
      rw [hl, HFD.out]
      exact row_kept HRow2.out (fun g e => World.putObj_heap_other (by have := (HROW.out.lt g e).1; omega))
    · obtain ⟨Q, hQ, hQp⟩ := HFS.out.mem q (by rw [hdr, hr]; simp)
      have hmq : m = q := by rw [hm, hr]; show q * 1 = q; omega
      have hQ6 : Q ≤ 1000000 := by have := (HPos.out d r hdr).2; rw [← hm] at this; omega
      have HQQ : Hid (m = Q ∧ Pr Q ∧ Q ≤ 1000000) := ⟨by omega, hQp, hQ6⟩
      subst hmq
      have hfd : fs = d ++ [m] := by rw [hdr, hr]
      have HFD : Hid (fs = d ++ [m]) := hfd
      clear h1 h2 h3 hK hst hdr hm hr hfd hk hQ hQp hQ6
      gi_wp2
      refine ⟨trivial, ?_⟩
      have hAG := appendGreat_pr Q HQQ.out.2.1 HQQ.out.2.2 a c (w.heap.size + 3) k d W HD.out (by omega) (by omega) (ownsRow_lower HROW.out (by omega)) (HT.out.below HB.out)
      rw [← HQQ.out.1] at hAG
      refine (callsIn_wide.2 hAG).mono ?_
      rintro e w1 ⟨g1, c', rfl, ho, hb⟩
      have z1 := hb.size
      have hK1 : w1.heap[W0.heap.size]? = some (.deferred (some [])) := (hb.block _ (by omega)).trans HK.out
      have KB1 : Hid (Below w.heap.size w w1) := HB.out.trans (hb.mono (by omega))
      have HO : Hid (w1.ownsRow w.heap.size 3 1 (.slice (some ⟨g1, 0, none⟩) (k + 1) c') (k + 1) (ints (d ++ [m]))) := ownsRow_lower ho (by omega)
      have hgg := (ho.lt g1 rfl).1
      clear ho hb
      rw [z0] at hK1
      gi_wp2
      refine ⟨by simp, .inl ⟨_, _, rfl, run_takeDeferred hK1, ?_⟩⟩
      have hl : fs.length = k + 1 := by rw [HFD.out, HD.out]; simp
      refine ⟨.slice (some ⟨g1, 0, none⟩) (k + 1) c', by simp [results, Tryz.f168, go_sem], some ⟨g1, 0, none⟩, c', by rw [hl], ?_, KB1.out.grown (grownBy_putObj' w1 (w.heap.size + 2) (.deferred none)) KB1.out.size (fun k e => by cases e; omega)⟩
      rw [hl, HFD.out]
      exact ownsRow_put HO.out (by omega)
end Go.Proofs.YtcnfhndejkngkaaGreatDoor
