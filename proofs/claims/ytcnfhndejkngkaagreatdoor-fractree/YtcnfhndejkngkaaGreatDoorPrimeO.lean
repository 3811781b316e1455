/- prime.factors of a product of primes up to 23. -/
import Derived.Test.YtcnfhndejkngkaaGreatDoorJtX
set_option linter.unusedSimpArgs false
set_option linter.unusedVariables false
set_option maxRecDepth 100000
namespace Go.Proofs.YtcnfhndejkngkaaGreatDoor
open Go.RowKit
attribute [local go_sem] Oper.semAt_some

/-- d is told, r is left. -/
structure FS (h : Nat) (w : World) (d r : List Int) (o : Option Nat) (W : World) : Prop where
  n : Vr h (.int .i64 (prd r)) W
  l : ∃ a c, Vr (h + 1) (.slice a d.length c) W ∧ W.ownsRow (h + 4) 3 1 (.slice a d.length c) d.length (ints d) ∧ ∀ g, (Value.slice a d.length c).ownBlock = some g → o ≠ some g
  b : Below h w W
  o : ow (h + 2) o W

theorem FS.step {h : Nat} {w : World} {d r : List Int} {o o' : Option Nat} {W W' : World} (s : FS h w d r o W) (hg : W.grownBy W' o) (ho : o' = o ∨ ∃ g, o' = some g ∧ W.heap.size ≤ g) : FS h w d r o' W' := by
  obtain ⟨a, c, h1, h2, h3⟩ := s.l
  refine ⟨s.n.grown hg (s.o.ne (by omega)), ⟨a, c, h1.grown hg (s.o.ne (by omega)), row_kept h2 (fun g e => hg.block g (h2.lt g e).2 (fun e2 => h3 g e e2.symm)), ?_⟩, s.b.grown hg (by have := s.o.1; omega) (fun k e => by have := s.o.2 k e; omega), s.o.step hg ho⟩
  intro g e
  rcases ho with h4 | ⟨g2, h4, h5⟩
  · rw [h4]; exact h3 g e
  · rw [h4]; intro e2; cases e2; have := (h2.lt g e).2; omega

theorem FS.put {h : Nat} {w : World} {d r : List Int} {o : Option Nat} {W : World} (s : FS h w d r o W) (ob : Obj) (k : Nat) (hk : k = h + 2 ∨ k = h + 3) : FS h w d r o (W.putObj k ob) := by
  obtain ⟨a, c, h1, h2, h3⟩ := s.l
  exact ⟨s.n.put ob (by omega), ⟨a, c, h1.put ob (by omega), row_kept h2 (fun g e => World.putObj_heap_other (by have := (h2.lt g e).1; omega)), h3⟩, s.b.grown (grownBy_putObj' W _ ob) (by have := s.o.1; omega) (fun k e => by cases e; omega), s.o.put ob⟩

/-- The number that is left, off the world. -/
def leftAt (h : Nat) (W : World) : Nat := match W.cell? ⟨h, 0, none⟩ with
  | some (.int _ q) => q.toNat
  | _ => 0
theorem FS.left {h : Nat} {w : World} {d r : List Int} {o : Option Nat} {W : World} (s : FS h w d r o W) : leftAt h W = (prd r).toNat := by
  unfold leftAt; rw [s.n.c]

def FacPost (l : List Int) (w : World) (e : Ending) (w' : World) : Prop :=
  ∃ a c, e = .returned (.slice a l.length c) ∧ w'.ownsRow w.heap.size 3 1 (.slice a l.length c) l.length (ints l) ∧ Below w.heap.size w w'

set_option maxHeartbeats 2000000 in
theorem factors_sm (fs : List Int) (N : Int) (hfs : Sm fs) (hlen : fs.length ≤ 50) (hN : N = prd fs) (hN2 : N ≤ 1000000000000000000) (w : World) : Calls Tryz.prog 168 #[.int .i64 N] w (FacPost fs w) := by
  obtain ⟨i0, hi, hz0, hz1, hz2⟩ := info_parts Tryz.infoInt
  have HI : Hid (Tryz.prog.info? 3 = some i0 ∧ i0.zero = some (.int .i64 0) ∧ i0.size = 1 ∧ i0.bytes = 8) := ⟨hi, hz0, hz1, hz2⟩
  have HFS : Hid (Sm fs) := hfs
  have HLE : Hid (fs.length ≤ 50) := hlen
  have HN : Hid (N = prd fs) := hN
  have HBig : Hid (N ≤ 1000000000000000000) := hN2
  have HPos : Hid (∀ d r, fs = d ++ r → 1 ≤ prd r ∧ prd r ≤ 1000000000000000000) := by
    intro d r e
    have h1 : ∀ d : List Int, Sm (d ++ r) → prd r ≤ prd (d ++ r) := by
      intro d
      induction d with
      | nil => intro _; exact Int.le_refl _
      | cons a t ih =>
        intro hs
        have h2 := ih hs.tail
        have h3 := (sm_size a (hs.mem a (by simp))).1
        have h4 := prd_pos (Sm.right hs (d := a :: t))
        have h5 : prd (a :: t ++ r) = a * prd (t ++ r) := rfl
        have h6 := Int.mul_le_mul (show 1 ≤ a by omega) h2 (by omega) (by omega)
        omega
    have h7 := h1 d (e ▸ hfs)
    rw [← e, ← hN] at h7
    exact ⟨prd_pos (Sm.right (e ▸ hfs)), by omega⟩
  clear hi hz0 hz1 hz2 hfs hlen hN hN2
  refine (callsIn_wide (n := 5)).1 ?_
  refine callsIn_of_wp_marks Tryz.func168 rfl trivial ?_ rfl
  simp only [Tryz.ntmps168, List.size_toArray, List.length_cons, List.length_nil, Nat.reduceAdd, Nat.reduceSub, Array.replicate_succ, Array.replicate_zero, List.push_toArray, List.append_toArray, List.nil_append, List.cons_append]
  gi_wp2
  obtain ⟨W0, hW0⟩ : ∃ W0, W0 = (w.alloc (.cells #[.int .i64 N] 3)).alloc (.cells #[.slice none 0 0] 65) := ⟨_, rfl⟩
  rw [← hW0]
  have z0 : W0.heap.size = w.heap.size + 2 := by rw [hW0]; simp
  have v0 : Vr w.heap.size (.int .i64 N) W0 := by
    rw [hW0]; exact ⟨by rw [cell_old_at _ _ _ (by simp), cell_new_at _ _ _ _ _ rfl]; rfl, by rw [frozen_old_at _ _ _ (by simp), frozen_new_at _ _ _ _ _ rfl]⟩
  have v1 : Vr (w.heap.size + 1) (.slice none 0 0) W0 := by
    rw [hW0]; exact ⟨by rw [cell_new_at _ _ _ _ _ (by simp)]; rfl, by rw [frozen_new_at _ _ _ _ _ (by simp)]⟩
  have k0 : Below w.heap.size w W0 := by rw [hW0]; exact ((Below.refl _ _).alloc (Nat.le_refl _) _).alloc (by simp) _
  have hs0 : FS w.heap.size w [] fs none W0 := ⟨by rw [← HN.out]; exact v0, ⟨none, 0, v1, World.ownsRow_nil _ _ _ _, fun g e => by simp⟩, k0, by omega, fun g e => by cases e⟩
  clear hW0 v0 v1 k0
  refine wpIn_rangeO (F := Fence.wide) (n := 5) rfl (by decide) (gf := 177) rfl trivial (enters_of Tryz.func177 (by kernel_rfl) rfl) (rising_ten Fence.wide (5 - 1) trivial rfl (by decide)) rfl
    (fun o pre W => pre ≠ pr10 ∧ ∃ d r, fs = d ++ r ∧ (∀ y ∈ r, y ∉ pre) ∧ FS w.heap.size w d r o W)
    (fun c o pre W => c = .exit 0 ∧ ∃ d r, fs = d ++ r ∧ (r = [] ∨ ∃ q, r = [q]) ∧ FS w.heap.size w d r o W)
    ?ab ?abp ?abx ⟨by simp [pr10], [], fs, rfl, by simp, hs0⟩
    (fun x => { tmps := #[.int .i64 N, .pointer (some ⟨w.heap.size, 0, none⟩), .slice none 0 0, .pointer (some ⟨w.heap.size + 1, 0, none⟩), .int .i64 x, .int .i64 x, undef, undef, undef, undef, undef, undef, undef, undef, undef, undef, undef, undef, undef, undef, undef, undef, undef, undef, undef, undef, undef, undef, undef], defers := [] }) ?assign ?body ?hend ?stop
  case ab =>
    rintro o s A B o' ⟨h0, d, r, h1, h2, h3⟩ hg ho
    exact ⟨h0, d, r, h1, h2, h3.step hg ho⟩
  case abp =>
    rintro o s A ob ⟨h0, d, r, h1, h2, h3⟩
    exact ⟨h0, d, r, h1, h2, h3.put ob _ (by omega)⟩
  case abx =>
    rintro c o s A ob ⟨h0, d, r, h1, h2, h3⟩
    exact ⟨h0, d, r, h1, h2, h3.put ob _ (by omega)⟩
  case assign =>
    intro l x W K hK
    gi_wp2
    exact hK
  case body =>
    rintro l o pre x W ⟨_, d, r, hdr, hnin, hst⟩ hog hpre hz
    have hsr : Sm r := Sm.right (hdr ▸ HFS.out)
    obtain ⟨m, hm⟩ : ∃ m, m = prd r := ⟨_, rfl⟩
    have hm1 := HPos.out d r hdr
    have hx1 : 2 ≤ x ∧ x ≤ 29 := by
      have : x ∈ pr10 := hpre.subset (by simp)
      revert x; intro x; simp only [pr10, List.mem_cons, List.not_mem_nil, or_false]; omega
    have hxx : 0 ≤ x * x ∧ x * x ≤ 841 := by
      have h1 := Int.mul_le_mul hx1.2 hx1.2 (by omega) (by omega)
      have h2 := Int.mul_nonneg (show 0 ≤ x by omega) (show 0 ≤ x by omega)
      omega
    have hxb : decide ((1000 : Int) < x) = false := decide_eq_false (by omega)
    have hx0 : (x == 0) = false := beq_eq_false_iff_ne.2 (by omega)
    have q0 := hst.n.c
    rw [← hm] at q0 hm1
    have HDR : Hid (fs = d ++ r) := hdr
    have HNI : Hid (∀ y ∈ r, y ∉ pre) := hnin
    have HSR : Hid (Sm r) := hsr
    have HM : Hid (m = prd r) := hm
    have HPre : Hid (pre ++ [x] <+: pr10) := hpre
    have HST : Hid (FS w.heap.size w d r o W) := hst
    have HOG : Hid (∀ g, o = some g → W0.heap.size + 2 ≤ g ∧ g < W.heap.size) := hog
    have HM1 : Hid (1 ≤ m ∧ m ≤ 1000000000000000000) := hm1
    have hx2 := hx1.1
    have hx3 := hx1.2
    clear hdr hnin hsr hm hpre hst hog hx1 hm1
    by_cases hsq : m < x * x
    · have hsb : decide (m < x * x) = true := decide_eq_true hsq
      have hshort := sm_short HSR.out hx2 (sm_next HSR.out HPre.out HNI.out) (by rw [← HM.out]; exact hsq)
      have HSH : Hid (r = [] ∨ ∃ q, r = [q]) := hshort
      clear hshort hsq
      gi_wp2
      exact ⟨KP.refl _ _, rfl, d, r, HDR.out, HSH.out, HST.out⟩
    · have hsb : decide (m < x * x) = false := decide_eq_false hsq
      have HX9 : Hid (x ∈ nine) := sm_29 HSR.out HPre.out HNI.out (by rw [← HM.out]; exact hsq)
      clear hsq
      gi_wp2
      gi_loopw [15] (fun _ wx => Hid (∃ d r, fs = d ++ r ∧ (∀ y ∈ r, y ∉ pre) ∧ FS w.heap.size w d r o wx ∧ KP (keptO W0.heap.size o) W wx)) (fun _ wx => leftAt w.heap.size wx)
      case atStart => exact ⟨d, r, HDR.out, HNI.out, HST.out, KP.refl _ _⟩
      case round =>
        have HR := hrel
        clear hrel q0 hsb HDR HNI HSR HM HST HM1
        clear d r
        obtain ⟨d, r, hdr, hnin, hst, hkp⟩ := HR.out
        have hsr : Sm r := Sm.right (hdr ▸ HFS.out)
        obtain ⟨M, hm⟩ : ∃ M, M = prd r := ⟨_, rfl⟩
        obtain ⟨hm1, hm2⟩ := HPos.out d r hdr
        rw [← hm] at hm1 hm2
        have hdl : d.length ≤ 50 := by
          have h1 := HLE.out
          rw [hdr, List.length_append] at h1; omega
        obtain ⟨a, c, h1, h2, h3⟩ := hst.l
        obtain ⟨k, hk⟩ : ∃ k, k = d.length := ⟨_, rfl⟩
        rw [← hk] at h1 h2 h3 hdl
        have q1 := hst.n.c
        rw [← hm] at q1
        have q2 := h1.c
        have q3 := hst.n.f
        have q4 := h1.f
        have zk := hkp.size
        have HDR : Hid (fs = d ++ r) := hdr
        have HNI : Hid (∀ y ∈ r, y ∉ pre) := hnin
        have HSR : Hid (Sm r) := hsr
        have HM : Hid (M = prd r) := hm
        have HK : Hid (k = d.length) := hk
        have HST : Hid (FS w.heap.size w d r o wr) := hst
        have HKP : Hid (KP (keptO W0.heap.size o) W wr) := hkp
        have HV2 : Hid (Vr (w.heap.size + 1) (.slice a k c) wr) := h1
        have HROW : Hid (wr.ownsRow (w.heap.size + 4) 3 1 (.slice a k c) k (ints d)) := h2
        have HNO : Hid (∀ g, (Value.slice a k c).ownBlock = some g → o ≠ some g) := h3
        have HMM : Hid (M ≤ 1000000000000000000) := hm2
        clear hdr hnin hsr hm hk hst hkp h1 h2 h3 HR hm2
        by_cases hmod : M % x = 0
        · have hmb : ((M % x) == 0) = true := by rw [hmod]; rfl
          have hxr : x ∈ r := prd_mem HSR.out HX9.out (by rw [← HM.out]; exact Int.dvd_of_emod_eq_zero hmod)
          obtain ⟨t, ht⟩ := sm_head HSR.out hxr (sm_next HSR.out HPre.out HNI.out)
          obtain ⟨q, hq⟩ : ∃ q, q = prd t := ⟨_, rfl⟩
          have hmq : M = x * q := by rw [HM.out, ht, hq]; rfl
          have hdiv : M / x = q := by rw [hmq]; exact Int.mul_ediv_cancel_left q (by omega)
          have HT : Hid (r = x :: t) := ht
          have HQ : Hid (q = prd t) := hq
          have hq1 : 1 ≤ q := by rw [hq]; exact prd_pos (Sm.tail (ht ▸ HSR.out))
          have hqm : q < M := by
            rw [hmq]
            have := Int.mul_le_mul hx2 (Int.le_refl q) (by omega) (by omega)
            omega
          have HQ1 : Hid (1 ≤ q) := hq1
          have HQM : Hid (q < M) := hqm
          clear hmod hxr ht hq hmq hq1 hqm
          gi_wp2_with (gi_at_builtin; refine wpListIn_append_own_at _ rfl _ _ 65 rfl (w.heap.size + 4) 3 i0 (.int .i64 0) 1 8 Tryz.underlying65 HI.out.1 HI.out.2.1 HI.out.2.2.1 HI.out.2.2.2 rfl (by decide) (.slice a k c) k (ints d) rfl (HROW.out.alloc _) ⟨wr.heap.size, 0, none⟩ 1 1 [.int .i64 x] rfl rfl (cell_one_new _ _ _) (by simp [Value.oneCell']) (by simp only [maxLen]; omega) (by omega) (by simp; omega) ?_; intro v' w1 hown' hgrow _ hob; obtain ⟨g', cap', rfl⟩ := ownsRow_succ hown'; have hnb : ∀ b, b < w.heap.size + 4 → (Value.slice a k c).ownBlock ≠ some b := fun b hb e => by { have := (HROW.out.lt b e).1; omega }; have A1 : Vr w.heap.size (.int .i64 M) w1 := by { have h9 := (HST.out.n.grown (World.grownBy_alloc _ _ none) (by simp)).grown hgrow (hnb _ (by omega)); rw [← HM.out] at h9; exact h9 }; have A2 : Vr (w.heap.size + 1) (.slice a k c) w1 := (HV2.out.grown (World.grownBy_alloc _ _ none) (by simp)).grown hgrow (hnb _ (by omega)); have r1 := A1.c; have r2 := A2.c; have r3 := A1.f; have r4 := A2.f)
          have hq2 : 1 ≤ q := HQ1.out
          have hq3 : q < M := HQM.out
          have hq4 : M ≤ 1000000000000000000 := HMM.out
          have hw64 : wrap64 (M.tdiv x) = q := by
            rw [Int.tdiv_eq_ediv_of_nonneg (by omega), hdiv]; unfold wrap64; omega
          rw [hw64]
          have C1 : Vr w.heap.size (.int .i64 q) ((w1.setCell ⟨w.heap.size + 1, 0, none⟩ (.slice (some ⟨g', 0, none⟩) (k + 1) cap')).setCell ⟨w.heap.size, 0, none⟩ (.int .i64 q)) := (A1.other _ (by omega)).set _
          have C2 : Vr (w.heap.size + 1) (.slice (some ⟨g', 0, none⟩) (k + 1) cap') ((w1.setCell ⟨w.heap.size + 1, 0, none⟩ (.slice (some ⟨g', 0, none⟩) (k + 1) cap')).setCell ⟨w.heap.size, 0, none⟩ (.int .i64 q)) := (A2.set _).other _ (by omega)
          have hlen : (d ++ [x]).length = k + 1 := by rw [HK.out]; simp
          have hFS : FS w.heap.size w (d ++ [x]) t o ((w1.setCell ⟨w.heap.size + 1, 0, none⟩ (.slice (some ⟨g', 0, none⟩) (k + 1) cap')).setCell ⟨w.heap.size, 0, none⟩ (.int .i64 q)) := by
            refine ⟨by rw [← HQ.out]; exact C1, ⟨some ⟨g', 0, none⟩, cap', by rw [hlen]; exact C2, ?_, ?_⟩, ?_, ?_⟩
            · rw [hlen, show ints (d ++ [x]) = ints d ++ [.int .i64 x] by simp [ints]]
              exact ownsRow_setCell_below (ownsRow_setCell_below hown' (by show w.heap.size + 1 < _; omega) _) (by show w.heap.size < _; omega) _
            · intro g e e2
              have e3 : (Value.slice (some ⟨g', 0, none⟩) (k + 1) cap').ownBlock = some g := e
              rcases hob with h | h
              · exact HNO.out g (h ▸ e3) e2
              · rw [h] at e3
                have h5 := (HOG.out g e2).2
                simp at e3
                omega
            · exact (((HST.out.b.alloc (by have := HST.out.o.1; omega) _).grown hgrow (by simp; have := HST.out.o.1; omega) (fun r e => by have := (HROW.out.lt r e).1; omega)).setCell (by simp) _).setCell (by simp) _
            · refine HST.out.o.size ?_
              have := hgrow.size
              simp [World.setCell] at this ⊢
              omega
          refine ⟨⟨d ++ [x], t, by rw [HDR.out, HT.out]; simp, fun y hy => HNI.out y (by rw [HT.out]; exact List.mem_cons_of_mem _ hy), hFS, ?_⟩, ?_⟩
          · refine (((HKP.out.alloc _).grown hgrow (fun r e h => ?_)).setCell (fun h => ?_) _).setCell (fun h => ?_) _
            · have h5 := (HROW.out.lt r e).1
              rcases h with h | h | h
              · omega
              · omega
              · exact HNO.out r e h
            · rcases h with h | h | h
              · simp at h; omega
              · simp at h; omega
              · have := HST.out.o.2 _ h; simp at this <;> omega
            · rcases h with h | h | h
              · simp at h; omega
              · simp at h; omega
              · have := HST.out.o.2 _ h; simp at this <;> omega
          · rw [hFS.left, HST.out.left, ← HQ.out, ← HM.out]; omega
        · have hmb : ((M % x) == 0) = false := beq_eq_false_iff_ne.2 hmod
          have HMD : Hid (M % x ≠ 0) := hmod
          clear hmod
          gi_wp2
          refine ⟨HKP.out, ?_, d, r, HDR.out, fun y hy h => ?_, HST.out⟩
          · intro h
            have h2 := nine_size x HX9.out
            have h3 : (pre ++ [x]).getLast? = pr10.getLast? := by rw [h]
            simp [pr10] at h3
            omega
          rcases List.mem_append.1 h with h | h
          · exact HNI.out y hy h
          · simp at h
            subst h
            exact HMD.out (by rw [HM.out]; exact Int.emod_eq_zero_of_dvd (prd_dvd hy))
  case hend =>
    rintro o W ⟨h, _⟩
    exact h rfl
  case stop =>
    rintro c o pre W ⟨rfl, d, r, hdr, hsh, hst⟩ hK
    obtain ⟨a, c, h1, h2, h3⟩ := hst.l
    obtain ⟨k, hk⟩ : ∃ k, k = d.length := ⟨_, rfl⟩
    have hkl : k ≤ 50 := by
      have h4 := HLE.out
      rw [hdr, List.length_append] at h4; omega
    rw [← hk] at h1 h2
    obtain ⟨m, hm⟩ : ∃ m, m = prd r := ⟨_, rfl⟩
    have q1 := hst.n.c
    rw [← hm] at q1
    have q2 := h1.c
    have zW : W0.heap.size < W.heap.size := lt_of_some hK
    have HROW : Hid (W.ownsRow (w.heap.size + 4) 3 1 (.slice a k c) k (ints d)) := h2
    have HB : Hid (Below w.heap.size w W) := hst.b
    have HK : Hid (W.heap[W0.heap.size]? = some (.deferred (some []))) := hK
    have HD : Hid (k = d.length) := hk
    have HDR : Hid (fs = d ++ r) := hdr
    have HM : Hid (m = prd r) := hm
    have HRow2 : Hid (W.ownsRow w.heap.size 3 1 (.slice a k c) k (ints d)) := ownsRow_lower h2 (by omega)
    rcases hsh with hr | ⟨q, hr⟩
    · have hm1 : m = 1 := by rw [hm, hr]; rfl
      subst hm1
      have hfd : fs = d := by rw [hdr, hr, List.append_nil]
      have HFD : Hid (fs = d) := hfd
      clear h1 h2 h3 hK hst hdr hm hr hfd hk
      gi_wp2
      refine ⟨trivial, ?_⟩
      refine (callsIn_wide.2 (appendGreat_one (.slice a k c) W)).mono ?_
      rintro e w1 ⟨rfl, rfl⟩
      gi_wp2
      have hK1 := HK.out
      rw [z0] at hK1
      refine ⟨by simp, .inl ⟨_, _, rfl, run_takeDeferred hK1, ?_⟩⟩
      refine ⟨.slice a k c, by simp [results, Tryz.f168, go_sem], ?_⟩
      have hl : fs.length = k := by rw [HFD.out]; exact HD.out.symm
      refine ⟨a, c, by rw [hl], ?_, HB.out.grown (grownBy_putObj' _ (w.heap.size + 2) (.deferred none)) HB.out.size (fun k e => by cases e; omega)⟩
      rw [hl, HFD.out]
      exact row_kept HRow2.out (fun g e => World.putObj_heap_other (by have := (HROW.out.lt g e).1; omega))
    · have hq : q ∈ nine := HFS.out.mem q (by rw [hdr, hr]; simp)
      have hmq : m = q := by rw [hm, hr]; show q * 1 = q; omega
      subst hmq
      have hfd : fs = d ++ [m] := by rw [hdr, hr]
      have HFD : Hid (fs = d ++ [m]) := hfd
      have HQ : Hid (m ∈ nine) := hq
      clear h1 h2 h3 hK hst hdr hm hr hfd hk hq
      gi_wp2
      refine ⟨trivial, ?_⟩
      refine (callsIn_wide.2 (appendGreat_nine m HQ.out a c (w.heap.size + 3) k d W HD.out (by omega) (by omega) (ownsRow_lower HROW.out (by omega)))).mono ?_
      rintro e w1 ⟨g1, c', rfl, ho, hb⟩
      have z1 := hb.size
      have hK1 : w1.heap[W0.heap.size]? = some (.deferred (some [])) := (hb.block _ (by omega)).trans HK.out
      have KB1 : Hid (Below w.heap.size w w1) := HB.out.trans (hb.mono (by omega))
      have HO : Hid (w1.ownsRow w.heap.size 3 1 (.slice (some ⟨g1, 0, none⟩) (k + 1) c') (k + 1) (ints (d ++ [m]))) := ownsRow_lower ho (by omega)
      have hgg := (ho.lt g1 rfl).1
      clear ho hb
      rw [z0] at hK1
      gi_wp2
      refine ⟨by simp, .inl ⟨_, _, rfl, run_takeDeferred hK1, ?_⟩⟩
      have hl : fs.length = k + 1 := by rw [HFD.out, HD.out]; simp
      refine ⟨.slice (some ⟨g1, 0, none⟩) (k + 1) c', by simp [results, Tryz.f168, go_sem], some ⟨g1, 0, none⟩, c', by rw [hl], ?_, KB1.out.grown (grownBy_putObj' w1 (w.heap.size + 2) (.deferred none)) KB1.out.size (fun k e => by cases e; omega)⟩
      rw [hl, HFD.out]
      exact ownsRow_put HO.out (by omega)

end Go.Proofs.YtcnfhndejkngkaaGreatDoor
