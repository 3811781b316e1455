/- FormPoints, the law's own walk: out of what is asked of the example and of Points. Written by pointswalk.py. -/
import Derived.Test.YtijkanilpblogaeQfN
import Derived.Test.YtijkanilpblogaeQfO
import Derived.Test.YtijkanilpblogaeFormPo
import Derived.Deep.CutBlock
import Derived.Deep.LoopGhost
set_option linter.unusedSimpArgs false
set_option linter.unusedVariables false
set_option maxRecDepth 100000
namespace Go.Proofs.Ytijkanilpblogae
open Go.RowKit

/-- What is asked of the example and of Points. -/
structure PointsIs (Bg : World → Prop) : Prop where
  keep : ∀ w w' : World, Bg w → Below w.heap.size w w' → Bg w'
  begun : ∀ w : World, Bg w → Calls Try.prog 9 #[] w fun e w' => e = .returned (.bool true) ∧ Below w.heap.size w w'
  points : ∀ (f : Qf) (n : Int) (w : World), Calls Try.prog 24 #[f.v, .int .i64 n] w fun e w' => ∃ (a : Option Addr) (c : Nat) (l : List (Int × Int)), e = .returned (.tuple #[.slice a l.length c, ffv (pfault f n)]) ∧ PoOut f n l ∧ Pl a l w' ∧ l.length ≤ c ∧ Below w.heap.size w w'

/-- The cells that are read: of the form, and of the point. -/
abbrev S5p (f : Qf) (x y : Int) (bf b i : Nat) (W : World) : Prop :=
  W.cell? ⟨bf, 0, none⟩ = some (.int .i64 f.a) ∧ W.cell? ⟨bf, 1, none⟩ = some (.int .i64 f.b) ∧ W.cell? ⟨bf, 2, none⟩ = some (.int .i64 f.c) ∧ W.cell? ⟨b, i * 2, none⟩ = some (.int .i64 x) ∧ W.cell? ⟨b, i * 2 + 1, none⟩ = some (.int .i64 y)
theorem s5p_of {f : Qf} {x y : Int} {b i : Nat} {l : List (Int × Int)} {w W : World} {e1 e2 : Nat × List Value × TypeId} (h : Ms [e1, e2, (w.heap.size, f.l, 32)] w W) (o : Pl (some ⟨b, 0, none⟩) l W) (hp : l[i]? = some (x, y)) : S5p f x y w.heap.size b i W := by
  have hm := h.1 _ (.tail _ (.tail _ (.head _)))
  obtain ⟨b', e, _, hc⟩ := o (by intro h; rw [h] at hp; simp at hp)
  obtain rfl : b = b' := by simpa using e
  have h1 := pcells_at l i (x, y) hp
  exact ⟨hm.cell 0, hm.cell 1, hm.cell 2, hc _ _ h1.1, hc _ _ h1.2⟩

abbrev S7p (f : Qf) (x y x0 y0 : Int) (bf b i j : Nat) (W : World) : Prop :=
  W.cell? ⟨bf, 0, none⟩ = some (.int .i64 f.a) ∧ W.cell? ⟨bf, 1, none⟩ = some (.int .i64 f.b) ∧ W.cell? ⟨bf, 2, none⟩ = some (.int .i64 f.c) ∧ W.cell? ⟨b, i * 2, none⟩ = some (.int .i64 x) ∧ W.cell? ⟨b, i * 2 + 1, none⟩ = some (.int .i64 y) ∧ W.cell? ⟨b, j * 2, none⟩ = some (.int .i64 x0) ∧ W.cell? ⟨b, j * 2 + 1, none⟩ = some (.int .i64 y0)
theorem s7p_of {f : Qf} {x y x0 y0 : Int} {b i j : Nat} {l : List (Int × Int)} {w W : World} {e1 e2 : Nat × List Value × TypeId} (h : Ms [e1, e2, (w.heap.size, f.l, 32)] w W) (o : Pl (some ⟨b, 0, none⟩) l W) (hp : l[i]? = some (x, y)) (hq : l[j]? = some (x0, y0)) : S7p f x y x0 y0 w.heap.size b i j W := by
  obtain ⟨a1, a2, a3, a4, a5⟩ := s5p_of h o hp
  obtain ⟨_, _, _, b4, b5⟩ := s5p_of h o hq
  exact ⟨a1, a2, a3, a4, a5, b4, b5⟩

set_option maxRecDepth 100000 in
set_option maxHeartbeats 8000000 in
theorem fp_start (Bg : World → Prop) (G : PointsIs Bg) (f : Qf) (n : Int) (w : World) (hbg : Bg w) :
    Calls Try.prog 7 #[f.v, .int .i64 n] w fun e w' => e = .returned (.bool true) ∧ Below w.heap.size w w' := by
  have HG : Hid (PointsIs Bg) := G
  have HBG : Hid (Bg w) := hbg
  clear G hbg
  obtain ⟨c0, d0, hcd⟩ : ∃ c d, ffault f = (c, d) := ⟨_, _, rfl⟩
  have HCD : Hid (ffault f = (c0, d0)) := hcd
  have HFl : Hid (∀ w, Calls Try.prog 14 #[f.v] w fun e w' => e = .returned (ffv (c0, d0)) ∧ Below w.heap.size w w') := fun w => by have h := refFormFault_any f w; rw [hcd] at h; exact h
  clear hcd
  obtain ⟨c1, d1, hpf⟩ : ∃ c d, pfault f n = (c, d) := ⟨_, _, rfl⟩
  have HPF : Hid (pfault f n = (c1, d1)) := hpf
  have HPo : Hid (∀ w, Calls Try.prog 24 #[f.v, .int .i64 n] w fun e w' => ∃ (a : Option Addr) (c : Nat) (l : List (Int × Int)), e = .returned (.tuple #[.slice a l.length c, ffv (c1, d1)]) ∧ PoOut f n l ∧ Pl a l w' ∧ l.length ≤ c ∧ Below w.heap.size w w') := fun w => by rw [← hpf]; exact HG.out.points f n w
  clear hpf
  unfold Qf.v at HPo HFl ⊢
  go_enter Try.func7, Try.ntmps7
  go_wp2_with fail
  have HM0 : Hid (Ms [(w.heap.size, f.l, 32)] w (w.alloc (.cells #[.int .i64 f.a, .int .i64 f.b, .int .i64 f.c] 32))) := Ms.new (l := []) ⟨fun x hx => (by cases hx), Below.refl _ _⟩ f.l 32
  refine (HPo.out _).mono ?_
  rintro e w1 ⟨a, c, l, rfl, hpo, hpl, hlc, k1⟩
  have HPO : Hid (PoOut f n l) := hpo
  have HPL : Hid (Pl a l w1) := hpl
  have HLC : Hid (l.length ≤ c) := hlc
  have HM1 : Hid (Ms [(w1.heap.size, [.int .i64 c1, .int .i64 d1], 24), (w.heap.size, f.l, 32)] w (w1.alloc (.cells #[.int .i64 c1, .int .i64 d1] 24))) := (HM0.out.below k1).new [.int .i64 c1, .int .i64 d1] 24
  have HPL1 : Hid (Pl a l (w1.alloc (.cells #[.int .i64 c1, .int .i64 d1] 24))) := hpl.below (al1 _ _)
  have q0 := (HM1.out.1 _ (.tail _ (.head _))).cell 0
  have q1 := (HM1.out.1 _ (.tail _ (.head _))).cell 1
  have q2 := (HM1.out.1 _ (.tail _ (.head _))).cell 2
  simp at q0 q1 q2
  clear hpo hpl hlc k1 HM0 HPo HPL
  go_wp2_with fail
  refine (HFl.out _).mono ?_
  rintro e w2 ⟨rfl, k2⟩
  have HLTa := (HM1.out.below k2).lt
  have HSZa := (HM1.out.below k2).2.size
  have HM2 : Hid (Ms [(w2.heap.size, [.int .i64 c0, .int .i64 d0], 24), (w1.heap.size, [.int .i64 c1, .int .i64 d1], 24), (w.heap.size, f.l, 32)] w (w2.alloc (.cells #[.int .i64 c0, .int .i64 d0] 24))) := (HM1.out.below k2).new [.int .i64 c0, .int .i64 d0] 24
  have HPL2 : Hid (Pl a l (w2.alloc (.cells #[.int .i64 c0, .int .i64 d0] 24))) := (HPL1.out.below k2).below (al1 _ _)
  clear k2 q0 q1 q2 HM1 HPL1
  obtain ⟨W2, hW2⟩ : ∃ W, W = w2.alloc (.cells #[.int .i64 c0, .int .i64 d0] 24) := ⟨_, rfl⟩
  rw [← hW2] at HM2 HPL2
  have v0 : W2.cell? ⟨w2.heap.size, 0, none⟩ = some (.int .i64 c0) := (HM2.out.1 _ (.head _)).cell 0
  have v1 : W2.cell? ⟨w2.heap.size, 1, none⟩ = some (.int .i64 d0) := (HM2.out.1 _ (.head _)).cell 1
  have v2 : W2.frozen? ⟨w2.heap.size, 0, none⟩ = false := (HM2.out.1 _ (.head _)).frozen 0
  have v3 : W2.frozen? ⟨w2.heap.size, 1, none⟩ = false := (HM2.out.1 _ (.head _)).frozen 1
  have v4 : w2.heap.size < W2.heap.size := (HM2.out.1 _ (.head _)).lt
  have HLT0 : Hid (∀ x ∈ [(w1.heap.size, [.int .i64 c1, .int .i64 d1], 24), (w.heap.size, f.l, 32)], x.1 < w2.heap.size) := HLTa
  have HSZ0 : Hid (w.heap.size ≤ w2.heap.size) := HSZa
  clear HLTa HSZa
  rcases ffault_code HCD.out with ⟨rfl, rfl⟩ | hc
  · by_cases hbad : n < 0 ∨ 1000000 < n
    · obtain ⟨rfl, rfl⟩ : c1 = 3 ∧ d1 = 0 := by have := HPF.out; unfold pfault at this; rw [HCD.out] at this; simp [hbad] at this; omega
      obtain rfl : l = [] := HPO.out.bad (by rw [HPF.out]; simp)
      have HLT : Hid (∀ x ∈ [(w1.heap.size, [.int .i64 3, .int .i64 0], 24), (w.heap.size, f.l, 32)], x.1 < w2.heap.size) := HLT0.out
      have HSZ : Hid (w.heap.size ≤ w2.heap.size) := HSZ0.out
      by_cases hneg : n < 0
      · have b1 : decide (n < 0) = true := decide_eq_true hneg
        have b2 : decide (1000000 < n) = false := decide_eq_false (by omega)
        go_wp2_with fail
        rw [← hW2]
        refine (F_any 3 0 _).mono ?_
        rintro e w3 ⟨rfl, k3⟩
        have N3 := HM2.out.below k3
        have x0 := (N3.1 _ (.head _)).cell 0
        have x1 := (N3.1 _ (.head _)).cell 1
        have x2 := (N3.1 _ (.head _)).frozen 0
        have x3 := (N3.1 _ (.head _)).frozen 1
        have x4 : w2.heap.size < w3.heap.size := (N3.1 _ (.head _)).lt
        simp at x0 x1
        have HM3 : Hid (Ms [(w2.heap.size, [.int .i64 3, .int .i64 0], 24), (w1.heap.size, [.int .i64 3, .int .i64 0], 24), (w.heap.size, f.l, 32)] w ((w3.setCell ⟨w2.heap.size, 0, none⟩ (.int .i64 3)).setCell ⟨w2.heap.size, 1, none⟩ (.int .i64 0))) :=
          (N3.mono (l' := [(w1.heap.size, [.int .i64 3, .int .i64 0], 24), (w.heap.size, f.l, 32)]) (fun x hx => .tail _ hx)).set2 (N3.1 _ (.head _)) (fun x hx => by have := HLT.out x hx; omega) HSZ.out (.int .i64 3) (.int .i64 0)
        clear hW2 k3 N3 v0 v1 v2 v3 v4 HM2
        go_wp2_with fail
        refine (HG.out.begun _ (HG.out.keep _ _ HBG.out HM3.out.2)).mono ?_
        rintro e w4 ⟨rfl, k4⟩
        have HM4 := HM3.out.below k4
        have p0 := (HM4.1 _ (.head _)).cell 0
        have p1 := (HM4.1 _ (.head _)).cell 1
        have p2 := (HM4.1 _ (.tail _ (.head _))).cell 0
        have p3 := (HM4.1 _ (.tail _ (.head _))).cell 1
        simp at p0 p1 p2 p3
        have HK4 : Hid (Below w.heap.size w w4) := HM4.2
        clear HM4 k4 HM3
        go_wp2_with fail
        go_ret
        exact ⟨rfl, HK4.out⟩
      · have b1 : decide (n < 0) = false := decide_eq_false hneg
        have b2 : decide (1000000 < n) = true := decide_eq_true (by omega)
        go_wp2_with fail
        rw [← hW2]
        refine (F_any 3 0 _).mono ?_
        rintro e w3 ⟨rfl, k3⟩
        have N3 := HM2.out.below k3
        have x0 := (N3.1 _ (.head _)).cell 0
        have x1 := (N3.1 _ (.head _)).cell 1
        have x2 := (N3.1 _ (.head _)).frozen 0
        have x3 := (N3.1 _ (.head _)).frozen 1
        have x4 : w2.heap.size < w3.heap.size := (N3.1 _ (.head _)).lt
        simp at x0 x1
        have HM3 : Hid (Ms [(w2.heap.size, [.int .i64 3, .int .i64 0], 24), (w1.heap.size, [.int .i64 3, .int .i64 0], 24), (w.heap.size, f.l, 32)] w ((w3.setCell ⟨w2.heap.size, 0, none⟩ (.int .i64 3)).setCell ⟨w2.heap.size, 1, none⟩ (.int .i64 0))) :=
          (N3.mono (l' := [(w1.heap.size, [.int .i64 3, .int .i64 0], 24), (w.heap.size, f.l, 32)]) (fun x hx => .tail _ hx)).set2 (N3.1 _ (.head _)) (fun x hx => by have := HLT.out x hx; omega) HSZ.out (.int .i64 3) (.int .i64 0)
        clear hW2 k3 N3 v0 v1 v2 v3 v4 HM2
        go_wp2_with fail
        refine (HG.out.begun _ (HG.out.keep _ _ HBG.out HM3.out.2)).mono ?_
        rintro e w4 ⟨rfl, k4⟩
        have HM4 := HM3.out.below k4
        have p0 := (HM4.1 _ (.head _)).cell 0
        have p1 := (HM4.1 _ (.head _)).cell 1
        have p2 := (HM4.1 _ (.tail _ (.head _))).cell 0
        have p3 := (HM4.1 _ (.tail _ (.head _))).cell 1
        simp at p0 p1 p2 p3
        have HK4 : Hid (Below w.heap.size w w4) := HM4.2
        clear HM4 k4 HM3
        go_wp2_with fail
        go_ret
        exact ⟨rfl, HK4.out⟩
    · obtain ⟨rfl, rfl⟩ : c1 = 0 ∧ d1 = 0 := by have := HPF.out; unfold pfault at this; rw [HCD.out] at this; simp [hbad] at this; omega
      have HPt : Hid (Pts f n l) := HPO.out.good HPF.out
      have b1 : decide (n < 0) = false := decide_eq_false (by omega)
      have b2 : decide (1000000 < n) = false := decide_eq_false (by omega)
      have hnb : 0 ≤ n ∧ n ≤ 1000000 := by omega
      go_wp2_with fail
      rw [← hW2]
      clear hW2
      refine (HG.out.begun _ (HG.out.keep _ _ HBG.out HM2.out.2)).mono ?_
      rintro e w4 ⟨rfl, k4⟩
      have HM4 : Hid (Ms [(w2.heap.size, [.int .i64 0, .int .i64 0], 24), (w1.heap.size, [.int .i64 0, .int .i64 0], 24), (w.heap.size, f.l, 32)] w w4) := HM2.out.below k4
      have HPL4 : Hid (Pl a l w4) := HPL2.out.below k4
      have p0 := (HM4.out.1 _ (.head _)).cell 0
      have p1 := (HM4.out.1 _ (.head _)).cell 1
      have p2 := (HM4.out.1 _ (.tail _ (.head _))).cell 0
      have p3 := (HM4.out.1 _ (.tail _ (.head _))).cell 1
      simp at p0 p1 p2 p3
      clear k4 HM2 HPL2 v0 v1 v2 v3 v4
      obtain ⟨hfu, hfa, hfd, _⟩ := ffault_ok HCD.out
      have hlen : l.length ≤ 11088000 := by
        obtain ⟨g, m, h1⟩ := red_has HCD.out
        exact pts_few h1 (h1.upto HCD.out).2.1 (by rw [h1.disc]; exact hfd) hnb HPt.out
      have HFU : Hid (f.upto 1000000 ∧ 1 ≤ f.a ∧ f.disc < 0) := ⟨hfu, hfa, hfd⟩
      clear hfu hfa hfd
      go_wp2
      go_loopg [8] l.length (fun gk iv wx => ∃ i : Nat, iv = .int .i64 i ∧ i ≤ l.length ∧ Hid (gk = l.length - i ∧ Ms [(w2.heap.size, [.int .i64 0, .int .i64 0], 24), (w1.heap.size, [.int .i64 0, .int .i64 0], 24), (w.heap.size, f.l, 32)] w wx ∧ Pl a l wx))
      case atStart => exact ⟨0, rfl, Nat.zero_le _, rfl, HM4.out, HPL4.out⟩
      case round =>
        clear HM4 HPL4 p0 p1 p2 p3
        obtain ⟨i, rfl, hi, HR⟩ := hrel
        have HGk : Hid (gk = l.length - i) := HR.out.1
        by_cases hin : i < l.length
        · have HMr : Hid (Ms [(w2.heap.size, [.int .i64 0, .int .i64 0], 24), (w1.heap.size, [.int .i64 0, .int .i64 0], 24), (w.heap.size, f.l, 32)] w wr) := HR.out.2.1
          have HPr : Hid (Pl a l wr) := HR.out.2.2
          obtain ⟨b, hab, hb, hcell⟩ := HR.out.2.2 (by intro h; rw [h] at hin; simp at hin)
          subst hab
          obtain ⟨p, hp⟩ : ∃ p, l[i]? = some p := ⟨l[i], List.getElem?_eq_getElem hin⟩
          have hv := HPt.out.has p (List.mem_of_getElem? hp)
          obtain ⟨x, y⟩ := p
          have hv2 : f.at x y = n := hv
          obtain ⟨⟨x1, x2⟩, y1, y2⟩ := near_bd HFU.out.1 HFU.out.2.1 HFU.out.2.2 hv2 hnb.2 hnb.1
          have HLv : Hid (∀ w, Calls Try.prog 25 #[f.v, .int .i64 x, .int .i64 y] w fun e w' => ∃ z, e = .returned (.pointer (some ⟨z, 0, none⟩)) ∧ Made w w' z n) := fun w => by
            have h := LongValue_any f x y w HFU.out.1.ia HFU.out.1.ib HFU.out.1.ic ⟨by omega, by omega⟩ ⟨by omega, by omega⟩
            rw [hv2] at h
            exact h
          unfold Qf.v at HLv
          have HIB : Hid (b < wr.heap.size ∧ (∀ j u, (pcells l)[j]? = some u → wr.cell? ⟨b, j, none⟩ = some u) ∧ l[i]? = some (x, y)) := ⟨hb, hcell, hp⟩
          have c0 := hcell _ _ (pcells_at l i (x, y) hp).1
          have c1 := hcell _ _ (pcells_at l i (x, y) hp).2
          clear hb hcell hp hv hv2 HR
          have hnl : n.natAbs < pw 2 := lt_pw2 (by omega) (by omega)
          by_cases hi0 : i = 0
          · subst hi0
            simp at c0 c1
            have q0 := (HMr.out.1 _ (.tail _ (.tail _ (.head _)))).cell 0
            have q1 := (HMr.out.1 _ (.tail _ (.tail _ (.head _)))).cell 1
            have q2 := (HMr.out.1 _ (.tail _ (.tail _ (.head _)))).cell 2
            simp at q0 q1 q2
            go_wp2_with fail
            refine wp_region_G (S5p f x y w.heap.size b 0) 61 (by as_aux_lemma => kernel_rfl) ⟨q0, q1, q2, c0, c1⟩ (fun hHeld => ?_)
            clear q0 q1 q2
            have N0 := HMr.out.below ((Below.refl wr.heap.size wr).drew)
            have O0 := HPr.out.below ((Below.refl wr.heap.size wr).drew)
            refine wpAnyG_take (i := 0) (v := ?v0x1) rfl (by as_aux_lemma => kernel_rfl) (fun _ _ _ h => h) (Or.inl ⟨by rfl, ?y0x1⟩) hHeld ?r0x1
            case y0x1 => (intro wS hSw; obtain ⟨s1, s2, s3, s4, s5⟩ := hSw; go_simp; try with_reducible rfl)
            try simp only [Act.put, List.setIfInBounds_toArray, List.set_cons_zero, List.set_cons_succ]
            refine wpAnyG_take (i := 1) (v := ?v1x2) rfl (by as_aux_lemma => kernel_rfl) (fun _ _ _ h => h) (Or.inl ⟨by rfl, ?y1x2⟩) hHeld ?r1x2
            case y1x2 => (intro wS hSw; obtain ⟨s1, s2, s3, s4, s5⟩ := hSw; go_simp; try with_reducible rfl)
            try simp only [Act.put, List.setIfInBounds_toArray, List.set_cons_zero, List.set_cons_succ]
            refine wpAnyG_take (i := 2) (v := ?v2x3) rfl (by as_aux_lemma => kernel_rfl) (fun _ _ _ h => h) (Or.inl ⟨by rfl, ?y2x3⟩) hHeld ?r2x3
            case y2x3 => (intro wS hSw; obtain ⟨s1, s2, s3, s4, s5⟩ := hSw; go_simp; try with_reducible rfl)
            try simp only [Act.put, List.setIfInBounds_toArray, List.set_cons_zero, List.set_cons_succ]
            refine wpAnyG_take (i := 3) (v := ?v3x4) rfl (by as_aux_lemma => kernel_rfl) (fun _ _ _ h => h) (Or.inl ⟨by rfl, ?y3x4⟩) hHeld ?r3x4
            case y3x4 => (intro wS hSw; obtain ⟨s1, s2, s3, s4, s5⟩ := hSw; go_simp; try with_reducible rfl)
            try simp only [Act.put, List.setIfInBounds_toArray, List.set_cons_zero, List.set_cons_succ]
            refine wpAnyG_take (i := 4) (v := ?v4x5) rfl (by as_aux_lemma => kernel_rfl) (fun _ _ _ h => h) (Or.inl ⟨by rfl, ?y4x5⟩) hHeld ?r4x5
            case y4x5 => (intro wS hSw; obtain ⟨s1, s2, s3, s4, s5⟩ := hSw; go_simp; try with_reducible rfl)
            try simp only [Act.put, List.setIfInBounds_toArray, List.set_cons_zero, List.set_cons_succ]
            refine wpAnyG_take (i := 5) (v := ?v5x6) rfl (by as_aux_lemma => kernel_rfl) (fun _ _ _ h => h) (Or.inl ⟨by rfl, ?y5x6⟩) hHeld ?r5x6
            case y5x6 => (intro wS hSw; obtain ⟨s1, s2, s3, s4, s5⟩ := hSw; go_simp; try with_reducible rfl)
            try simp only [Act.put, List.setIfInBounds_toArray, List.set_cons_zero, List.set_cons_succ]
            refine wpAnyG_take (i := 6) (v := ?v6x7) rfl (by as_aux_lemma => kernel_rfl) (fun _ _ _ h => h) (Or.inl ⟨by rfl, ?y6x7⟩) hHeld ?r6x7
            case y6x7 => (intro wS hSw; obtain ⟨s1, s2, s3, s4, s5⟩ := hSw; go_simp; try with_reducible rfl)
            try simp only [Act.put, List.setIfInBounds_toArray, List.set_cons_zero, List.set_cons_succ]
            refine wpAnyG_take (i := 7) (v := ?v7x8) rfl (by as_aux_lemma => kernel_rfl) (fun _ _ _ h => h) (Or.inl ⟨by rfl, ?y7x8⟩) hHeld ?r7x8
            case y7x8 => (intro wS hSw; obtain ⟨s1, s2, s3, s4, s5⟩ := hSw; go_simp; try with_reducible rfl)
            try simp only [Act.put, List.setIfInBounds_toArray, List.set_cons_zero, List.set_cons_succ]
            refine wpAnyG_take (i := 8) (v := ?v8x9) rfl (by as_aux_lemma => kernel_rfl) (fun _ _ _ h => h) (Or.inl ⟨by rfl, ?y8x9⟩) hHeld ?r8x9
            case y8x9 => (intro wS hSw; obtain ⟨s1, s2, s3, s4, s5⟩ := hSw; go_simp; try with_reducible rfl)
            try simp only [Act.put, List.setIfInBounds_toArray, List.set_cons_zero, List.set_cons_succ]
            refine wpAnyG_take (i := 9) (v := ?v9x10) rfl (by as_aux_lemma => kernel_rfl) (fun _ _ _ h => h) (Or.inl ⟨by rfl, ?y9x10⟩) hHeld ?r9x10
            case y9x10 => (intro wS hSw; obtain ⟨s1, s2, s3, s4, s5⟩ := hSw; go_simp; try with_reducible rfl)
            try simp only [Act.put, List.setIfInBounds_toArray, List.set_cons_zero, List.set_cons_succ]
            refine wpAnyG_take (i := 10) (v := ?v10x11) rfl (by as_aux_lemma => kernel_rfl) (fun _ _ _ h => h) (Or.inl ⟨by rfl, ?y10x11⟩) hHeld ?r10x11
            case y10x11 => (intro wS hSw; obtain ⟨s1, s2, s3, s4, s5⟩ := hSw; go_simp; try with_reducible rfl)
            try simp only [Act.put, List.setIfInBounds_toArray, List.set_cons_zero, List.set_cons_succ]
            refine wpAnyG_take (i := 12) (v := ?v12x12) rfl (by as_aux_lemma => kernel_rfl) (fun _ _ _ h => h) (Or.inl ⟨by rfl, ?y12x12⟩) hHeld ?r12x12
            case y12x12 => (intro wS hSw; obtain ⟨s1, s2, s3, s4, s5⟩ := hSw; go_simp; try with_reducible rfl)
            try simp only [Act.put, List.setIfInBounds_toArray, List.set_cons_zero, List.set_cons_succ]
            refine wpAnyG_one (i := 11) rfl (by as_aux_lemma => kernel_rfl) (fun K hK => ?_)
            go_simp
            refine (HLv.out _).mono ?_
            rintro e v1 ⟨z1, rfl, _, i1, kv1⟩
            have N1 := N0.below kv1
            have O1 := O0.below kv1
            refine hK.out _ _ (s5p_of N1 O1 HIB.out.2.2) ?_
            clear hK K
            try simp only [Act.put, List.setIfInBounds_toArray, List.set_cons_zero, List.set_cons_succ]
            refine wpAnyG_one (i := 13) rfl (by as_aux_lemma => kernel_rfl) (fun K hK => ?_)
            go_simp
            refine (B_any n _ (by omega) (by omega)).mono ?_
            rintro e v2 ⟨z2, rfl, _, i2, kv2⟩
            replace i1 := i1.below kv2 (Nat.le_refl _)
            have N2 := N1.below kv2
            have O2 := O1.below kv2
            refine hK.out _ _ (s5p_of N2 O2 HIB.out.2.2) ?_
            clear hK K
            try simp only [Act.put, List.setIfInBounds_toArray, List.set_cons_zero, List.set_cons_succ]
            refine wpAnyG_one (i := 14) rfl (by as_aux_lemma => kernel_rfl) (fun K hK => ?_)
            go_simp
            refine (Cmp_any z1 z2 n n 2 2 _ i1 i2 hnl hnl (by omega) (by omega)).mono ?_
            rw [show cmpZ n n = 0 by simp [cmpZ]]
            rintro e v3 ⟨rfl, kk, rfl⟩
            have kv3 : Below v2.heap.size v2 (v2.drewN kk) := below_drewN' (Below.refl _ _)
            have N3 := N2.below kv3
            have O3 := O2.below kv3
            refine hK.out _ _ (s5p_of N3 O3 HIB.out.2.2) ?_
            clear hK K
            try simp only [Act.put, List.setIfInBounds_toArray, List.set_cons_zero, List.set_cons_succ]
            clear hHeld
            have hHeld : S5p f x y w.heap.size b 0 (v2.drewN kk) := (s5p_of N3 O3 HIB.out.2.2)
            refine wpAnyG_take (i := 15) (v := .bool false) rfl (by as_aux_lemma => kernel_rfl) (fun _ _ _ h => h) (Or.inl ⟨by as_aux_lemma => kernel_rfl, ?y15x13⟩) hHeld ?r15x13
            case y15x13 => (intro wS hSw; (go_simp; try rfl))
            try simp only [Act.put, List.setIfInBounds_toArray, List.set_cons_zero, List.set_cons_succ]
            refine wpAnyG_take (i := 16) (v := .bool false) rfl (by as_aux_lemma => kernel_rfl) (fun _ _ _ h => h) (Or.inl ⟨by as_aux_lemma => kernel_rfl, ?y16x14⟩) hHeld ?r16x14
            case y16x14 => (intro wS hSw; (go_simp; try rfl))
            try simp only [Act.put, List.setIfInBounds_toArray, List.set_cons_zero, List.set_cons_succ]
            refine wpAnyG_take (i := 17) (v := ?v17x15) rfl (by as_aux_lemma => kernel_rfl) (fun _ _ _ h => h) (Or.inl ⟨by as_aux_lemma => kernel_rfl, ?y17x15⟩) hHeld ?r17x15
            case y17x15 => (intro wS hSw; have s1 := hSw; go_simp; try with_reducible rfl)
            try simp only [Act.put, List.setIfInBounds_toArray, List.set_cons_zero, List.set_cons_succ]
            refine wpAnyG_take (i := 18) (v := .bool false) rfl (by as_aux_lemma => kernel_rfl) (fun _ _ _ h => h) (Or.inl ⟨by as_aux_lemma => kernel_rfl, ?y18x16⟩) hHeld ?r18x16
            case y18x16 => (intro wS hSw; (go_simp; try rfl))
            try simp only [Act.put, List.setIfInBounds_toArray, List.set_cons_zero, List.set_cons_succ]
            refine wpAnyG_take (i := 19) (v := .bool false) rfl (by as_aux_lemma => kernel_rfl) (fun _ _ _ h => h) (Or.inl ⟨by as_aux_lemma => kernel_rfl, ?y19x17⟩) hHeld ?r19x17
            case y19x17 => (intro wS hSw; (go_simp; try rfl))
            try simp only [Act.put, List.setIfInBounds_toArray, List.set_cons_zero, List.set_cons_succ]
            refine wpAnyG_take (i := 20) (v := undef) rfl (by as_aux_lemma => kernel_rfl) (fun _ _ _ h => h) (Or.inr ⟨by as_aux_lemma => kernel_rfl, rfl⟩) hHeld ?_
            try simp only [Act.put, List.setIfInBounds_toArray, List.set_cons_zero, List.set_cons_succ]
            refine wpAnyG_take (i := 21) (v := undef) rfl (by as_aux_lemma => kernel_rfl) (fun _ _ _ h => h) (Or.inr ⟨by as_aux_lemma => kernel_rfl, rfl⟩) hHeld ?_
            try simp only [Act.put, List.setIfInBounds_toArray, List.set_cons_zero, List.set_cons_succ]
            refine wpAnyG_take (i := 22) (v := undef) rfl (by as_aux_lemma => kernel_rfl) (fun _ _ _ h => h) (Or.inr ⟨by as_aux_lemma => kernel_rfl, rfl⟩) hHeld ?_
            try simp only [Act.put, List.setIfInBounds_toArray, List.set_cons_zero, List.set_cons_succ]
            refine wpAnyG_take (i := 23) (v := undef) rfl (by as_aux_lemma => kernel_rfl) (fun _ _ _ h => h) (Or.inr ⟨by as_aux_lemma => kernel_rfl, rfl⟩) hHeld ?_
            try simp only [Act.put, List.setIfInBounds_toArray, List.set_cons_zero, List.set_cons_succ]
            refine wpAnyG_take (i := 24) (v := undef) rfl (by as_aux_lemma => kernel_rfl) (fun _ _ _ h => h) (Or.inr ⟨by as_aux_lemma => kernel_rfl, rfl⟩) hHeld ?_
            try simp only [Act.put, List.setIfInBounds_toArray, List.set_cons_zero, List.set_cons_succ]
            refine wpAnyG_take (i := 25) (v := undef) rfl (by as_aux_lemma => kernel_rfl) (fun _ _ _ h => h) (Or.inr ⟨by as_aux_lemma => kernel_rfl, rfl⟩) hHeld ?_
            try simp only [Act.put, List.setIfInBounds_toArray, List.set_cons_zero, List.set_cons_succ]
            refine wpAnyG_take (i := 26) (v := undef) rfl (by as_aux_lemma => kernel_rfl) (fun _ _ _ h => h) (Or.inr ⟨by as_aux_lemma => kernel_rfl, rfl⟩) hHeld ?_
            try simp only [Act.put, List.setIfInBounds_toArray, List.set_cons_zero, List.set_cons_succ]
            refine wpAnyG_take (i := 27) (v := undef) rfl (by as_aux_lemma => kernel_rfl) (fun _ _ _ h => h) (Or.inr ⟨by as_aux_lemma => kernel_rfl, rfl⟩) hHeld ?_
            try simp only [Act.put, List.setIfInBounds_toArray, List.set_cons_zero, List.set_cons_succ]
            refine wpAnyG_take (i := 28) (v := undef) rfl (by as_aux_lemma => kernel_rfl) (fun _ _ _ h => h) (Or.inr ⟨by as_aux_lemma => kernel_rfl, rfl⟩) hHeld ?_
            try simp only [Act.put, List.setIfInBounds_toArray, List.set_cons_zero, List.set_cons_succ]
            refine wpAnyG_take (i := 29) (v := undef) rfl (by as_aux_lemma => kernel_rfl) (fun _ _ _ h => h) (Or.inr ⟨by as_aux_lemma => kernel_rfl, rfl⟩) hHeld ?_
            try simp only [Act.put, List.setIfInBounds_toArray, List.set_cons_zero, List.set_cons_succ]
            refine wpAnyG_take (i := 30) (v := undef) rfl (by as_aux_lemma => kernel_rfl) (fun _ _ _ h => h) (Or.inr ⟨by as_aux_lemma => kernel_rfl, rfl⟩) hHeld ?_
            try simp only [Act.put, List.setIfInBounds_toArray, List.set_cons_zero, List.set_cons_succ]
            refine wpAnyG_take (i := 31) (v := undef) rfl (by as_aux_lemma => kernel_rfl) (fun _ _ _ h => h) (Or.inr ⟨by as_aux_lemma => kernel_rfl, rfl⟩) hHeld ?_
            try simp only [Act.put, List.setIfInBounds_toArray, List.set_cons_zero, List.set_cons_succ]
            refine wpAnyG_take (i := 32) (v := undef) rfl (by as_aux_lemma => kernel_rfl) (fun _ _ _ h => h) (Or.inr ⟨by as_aux_lemma => kernel_rfl, rfl⟩) hHeld ?_
            try simp only [Act.put, List.setIfInBounds_toArray, List.set_cons_zero, List.set_cons_succ]
            refine wpAnyG_take (i := 33) (v := undef) rfl (by as_aux_lemma => kernel_rfl) (fun _ _ _ h => h) (Or.inr ⟨by as_aux_lemma => kernel_rfl, rfl⟩) hHeld ?_
            try simp only [Act.put, List.setIfInBounds_toArray, List.set_cons_zero, List.set_cons_succ]
            refine wpAnyG_take (i := 34) (v := undef) rfl (by as_aux_lemma => kernel_rfl) (fun _ _ _ h => h) (Or.inr ⟨by as_aux_lemma => kernel_rfl, rfl⟩) hHeld ?_
            try simp only [Act.put, List.setIfInBounds_toArray, List.set_cons_zero, List.set_cons_succ]
            refine wpAnyG_take (i := 35) (v := undef) rfl (by as_aux_lemma => kernel_rfl) (fun _ _ _ h => h) (Or.inr ⟨by as_aux_lemma => kernel_rfl, rfl⟩) hHeld ?_
            try simp only [Act.put, List.setIfInBounds_toArray, List.set_cons_zero, List.set_cons_succ]
            refine wpAnyG_take (i := 36) (v := undef) rfl (by as_aux_lemma => kernel_rfl) (fun _ _ _ h => h) (Or.inr ⟨by as_aux_lemma => kernel_rfl, rfl⟩) hHeld ?_
            try simp only [Act.put, List.setIfInBounds_toArray, List.set_cons_zero, List.set_cons_succ]
            refine wpAnyG_take (i := 37) (v := undef) rfl (by as_aux_lemma => kernel_rfl) (fun _ _ _ h => h) (Or.inr ⟨by as_aux_lemma => kernel_rfl, rfl⟩) hHeld ?_
            try simp only [Act.put, List.setIfInBounds_toArray, List.set_cons_zero, List.set_cons_succ]
            refine wpAnyG_take (i := 38) (v := undef) rfl (by as_aux_lemma => kernel_rfl) (fun _ _ _ h => h) (Or.inr ⟨by as_aux_lemma => kernel_rfl, rfl⟩) hHeld ?_
            try simp only [Act.put, List.setIfInBounds_toArray, List.set_cons_zero, List.set_cons_succ]
            refine wpAnyG_take (i := 39) (v := undef) rfl (by as_aux_lemma => kernel_rfl) (fun _ _ _ h => h) (Or.inr ⟨by as_aux_lemma => kernel_rfl, rfl⟩) hHeld ?_
            try simp only [Act.put, List.setIfInBounds_toArray, List.set_cons_zero, List.set_cons_succ]
            refine wpAnyG_take (i := 40) (v := undef) rfl (by as_aux_lemma => kernel_rfl) (fun _ _ _ h => h) (Or.inr ⟨by as_aux_lemma => kernel_rfl, rfl⟩) hHeld ?_
            try simp only [Act.put, List.setIfInBounds_toArray, List.set_cons_zero, List.set_cons_succ]
            refine wpAnyG_take (i := 41) (v := undef) rfl (by as_aux_lemma => kernel_rfl) (fun _ _ _ h => h) (Or.inr ⟨by as_aux_lemma => kernel_rfl, rfl⟩) hHeld ?_
            try simp only [Act.put, List.setIfInBounds_toArray, List.set_cons_zero, List.set_cons_succ]
            refine wpAnyG_take (i := 42) (v := undef) rfl (by as_aux_lemma => kernel_rfl) (fun _ _ _ h => h) (Or.inr ⟨by as_aux_lemma => kernel_rfl, rfl⟩) hHeld ?_
            try simp only [Act.put, List.setIfInBounds_toArray, List.set_cons_zero, List.set_cons_succ]
            refine wpAnyG_take (i := 43) (v := undef) rfl (by as_aux_lemma => kernel_rfl) (fun _ _ _ h => h) (Or.inr ⟨by as_aux_lemma => kernel_rfl, rfl⟩) hHeld ?_
            try simp only [Act.put, List.setIfInBounds_toArray, List.set_cons_zero, List.set_cons_succ]
            refine wpAnyG_take (i := 44) (v := undef) rfl (by as_aux_lemma => kernel_rfl) (fun _ _ _ h => h) (Or.inr ⟨by as_aux_lemma => kernel_rfl, rfl⟩) hHeld ?_
            try simp only [Act.put, List.setIfInBounds_toArray, List.set_cons_zero, List.set_cons_succ]
            refine wpAnyG_take (i := 45) (v := undef) rfl (by as_aux_lemma => kernel_rfl) (fun _ _ _ h => h) (Or.inr ⟨by as_aux_lemma => kernel_rfl, rfl⟩) hHeld ?_
            try simp only [Act.put, List.setIfInBounds_toArray, List.set_cons_zero, List.set_cons_succ]
            refine wpAnyG_take (i := 46) (v := undef) rfl (by as_aux_lemma => kernel_rfl) (fun _ _ _ h => h) (Or.inr ⟨by as_aux_lemma => kernel_rfl, rfl⟩) hHeld ?_
            try simp only [Act.put, List.setIfInBounds_toArray, List.set_cons_zero, List.set_cons_succ]
            refine wpAnyG_take (i := 47) (v := undef) rfl (by as_aux_lemma => kernel_rfl) (fun _ _ _ h => h) (Or.inr ⟨by as_aux_lemma => kernel_rfl, rfl⟩) hHeld ?_
            try simp only [Act.put, List.setIfInBounds_toArray, List.set_cons_zero, List.set_cons_succ]
            refine wpAnyG_take (i := 48) (v := undef) rfl (by as_aux_lemma => kernel_rfl) (fun _ _ _ h => h) (Or.inr ⟨by as_aux_lemma => kernel_rfl, rfl⟩) hHeld ?_
            try simp only [Act.put, List.setIfInBounds_toArray, List.set_cons_zero, List.set_cons_succ]
            refine wpAnyG_take (i := 49) (v := undef) rfl (by as_aux_lemma => kernel_rfl) (fun _ _ _ h => h) (Or.inr ⟨by as_aux_lemma => kernel_rfl, rfl⟩) hHeld ?_
            try simp only [Act.put, List.setIfInBounds_toArray, List.set_cons_zero, List.set_cons_succ]
            refine wpAnyG_take (i := 50) (v := undef) rfl (by as_aux_lemma => kernel_rfl) (fun _ _ _ h => h) (Or.inr ⟨by as_aux_lemma => kernel_rfl, rfl⟩) hHeld ?_
            try simp only [Act.put, List.setIfInBounds_toArray, List.set_cons_zero, List.set_cons_succ]
            refine wpAnyG_take (i := 51) (v := undef) rfl (by as_aux_lemma => kernel_rfl) (fun _ _ _ h => h) (Or.inr ⟨by as_aux_lemma => kernel_rfl, rfl⟩) hHeld ?_
            try simp only [Act.put, List.setIfInBounds_toArray, List.set_cons_zero, List.set_cons_succ]
            refine wpAnyG_take (i := 52) (v := undef) rfl (by as_aux_lemma => kernel_rfl) (fun _ _ _ h => h) (Or.inr ⟨by as_aux_lemma => kernel_rfl, rfl⟩) hHeld ?_
            try simp only [Act.put, List.setIfInBounds_toArray, List.set_cons_zero, List.set_cons_succ]
            refine wpAnyG_take (i := 53) (v := undef) rfl (by as_aux_lemma => kernel_rfl) (fun _ _ _ h => h) (Or.inr ⟨by as_aux_lemma => kernel_rfl, rfl⟩) hHeld ?_
            try simp only [Act.put, List.setIfInBounds_toArray, List.set_cons_zero, List.set_cons_succ]
            refine wpAnyG_take (i := 54) (v := undef) rfl (by as_aux_lemma => kernel_rfl) (fun _ _ _ h => h) (Or.inr ⟨by as_aux_lemma => kernel_rfl, rfl⟩) hHeld ?_
            try simp only [Act.put, List.setIfInBounds_toArray, List.set_cons_zero, List.set_cons_succ]
            refine wpAnyG_take (i := 55) (v := undef) rfl (by as_aux_lemma => kernel_rfl) (fun _ _ _ h => h) (Or.inr ⟨by as_aux_lemma => kernel_rfl, rfl⟩) hHeld ?_
            try simp only [Act.put, List.setIfInBounds_toArray, List.set_cons_zero, List.set_cons_succ]
            refine wpAnyG_take (i := 56) (v := undef) rfl (by as_aux_lemma => kernel_rfl) (fun _ _ _ h => h) (Or.inr ⟨by as_aux_lemma => kernel_rfl, rfl⟩) hHeld ?_
            try simp only [Act.put, List.setIfInBounds_toArray, List.set_cons_zero, List.set_cons_succ]
            refine wpAnyG_take (i := 57) (v := undef) rfl (by as_aux_lemma => kernel_rfl) (fun _ _ _ h => h) (Or.inr ⟨by as_aux_lemma => kernel_rfl, rfl⟩) hHeld ?_
            try simp only [Act.put, List.setIfInBounds_toArray, List.set_cons_zero, List.set_cons_succ]
            refine wpAnyG_take (i := 58) (v := undef) rfl (by as_aux_lemma => kernel_rfl) (fun _ _ _ h => h) (Or.inr ⟨by as_aux_lemma => kernel_rfl, rfl⟩) hHeld ?_
            try simp only [Act.put, List.setIfInBounds_toArray, List.set_cons_zero, List.set_cons_succ]
            refine wpAnyG_take (i := 59) (v := undef) rfl (by as_aux_lemma => kernel_rfl) (fun _ _ _ h => h) (Or.inr ⟨by as_aux_lemma => kernel_rfl, rfl⟩) hHeld ?_
            try simp only [Act.put, List.setIfInBounds_toArray, List.set_cons_zero, List.set_cons_succ]
            refine wpAnyG_take (i := 60) (v := .bool false) rfl (by as_aux_lemma => kernel_rfl) (fun _ _ _ h => h) (Or.inl ⟨by as_aux_lemma => kernel_rfl, ?y60x18⟩) hHeld ?r60x18
            case y60x18 => (intro wS hSw; (go_simp; try rfl))
            try simp only [Act.put, List.setIfInBounds_toArray, List.set_cons_zero, List.set_cons_succ]
            refine wpAnyG_last (i := 61) rfl (by as_aux_lemma => kernel_rfl) (by as_aux_lemma => kernel_rfl) (fun K hK => ?_)
            go_simp
            refine hK.out _ _ ?_
            clear hK K
            try simp only [Act.put, List.setIfInBounds_toArray, List.set_cons_zero, List.set_cons_succ]
            refine wpAnyG_done (by as_aux_lemma => kernel_rfl) ?_ _
            have HMe : Hid (Ms [(w2.heap.size, [.int .i64 0, .int .i64 0], 24), (w1.heap.size, [.int .i64 0, .int .i64 0], 24), (w.heap.size, f.l, 32)] w (v2.drewN kk)) := N3
            have HPe : Hid (Pl (some ⟨b, 0, none⟩) l (v2.drewN kk)) := O3
            clear hHeld N0 N1 N2 N3 O0 O1 O2 O3 c0 c1 HMr HPr
            go_wp2
            go_roundg (l.length - 1)
            case rel => exact ⟨1, rfl, by omega, rfl, HMe.out, HPe.out⟩
            case measure => have := HGk.out; omega
          · obtain ⟨j, hj⟩ : ∃ j, i = j + 1 := ⟨i - 1, by omega⟩
            have hij : (i : Int) - 1 = (j : Int) := by omega
            have hjl : j < l.length := by omega
            have hi1 : 0 < i := by omega
            have hwj : IntKind.i64.wrap (j : Int) = (j : Int) := by rw [IntKind.wrap_i64]; omega
            obtain ⟨⟨x0, y0⟩, hp0⟩ : ∃ p, l[j]? = some p := ⟨l[j], List.getElem?_eq_getElem hjl⟩
            have HJB : Hid (l[j]? = some (x0, y0)) := hp0
            have hlt : plt (x0, y0) (x, y) := plt_at HPt.out.ord hp0 (by rw [← hj]; exact HIB.out.2.2)
            have S0 := s7p_of HMr.out HPr.out HIB.out.2.2 HJB.out
            clear hp0 c0 c1 hj hi0
            unfold plt at hlt
            rcases hlt with hlt | ⟨hxe, hlt⟩
            · have hgt : decide (x < x0) = false := decide_eq_false (by omega)
              have heq : (x0 == x) = false := beq_eq_false_iff_ne.2 (by omega)
              clear hlt
              go_wp2_with fail
              refine wp_region_G (S7p f x y x0 y0 w.heap.size b i j) 61 (by as_aux_lemma => kernel_rfl) S0 (fun hHeld => ?_)
              clear S0
              have N0 := HMr.out.below ((Below.refl wr.heap.size wr).drew)
              have O0 := HPr.out.below ((Below.refl wr.heap.size wr).drew)
              refine wpAnyG_take (i := 0) (v := ?v0x19) rfl (by as_aux_lemma => kernel_rfl) (fun _ _ _ h => h) (Or.inl ⟨by rfl, ?y0x19⟩) hHeld ?r0x19
              case y0x19 => (intro wS hSw; obtain ⟨s1, s2, s3, s4, s5, s6, s7⟩ := hSw; go_simp; try with_reducible rfl)
              try simp only [Act.put, List.setIfInBounds_toArray, List.set_cons_zero, List.set_cons_succ]
              refine wpAnyG_take (i := 1) (v := ?v1x20) rfl (by as_aux_lemma => kernel_rfl) (fun _ _ _ h => h) (Or.inl ⟨by rfl, ?y1x20⟩) hHeld ?r1x20
              case y1x20 => (intro wS hSw; obtain ⟨s1, s2, s3, s4, s5, s6, s7⟩ := hSw; go_simp; try with_reducible rfl)
              try simp only [Act.put, List.setIfInBounds_toArray, List.set_cons_zero, List.set_cons_succ]
              refine wpAnyG_take (i := 2) (v := ?v2x21) rfl (by as_aux_lemma => kernel_rfl) (fun _ _ _ h => h) (Or.inl ⟨by rfl, ?y2x21⟩) hHeld ?r2x21
              case y2x21 => (intro wS hSw; obtain ⟨s1, s2, s3, s4, s5, s6, s7⟩ := hSw; go_simp; try with_reducible rfl)
              try simp only [Act.put, List.setIfInBounds_toArray, List.set_cons_zero, List.set_cons_succ]
              refine wpAnyG_take (i := 3) (v := ?v3x22) rfl (by as_aux_lemma => kernel_rfl) (fun _ _ _ h => h) (Or.inl ⟨by rfl, ?y3x22⟩) hHeld ?r3x22
              case y3x22 => (intro wS hSw; obtain ⟨s1, s2, s3, s4, s5, s6, s7⟩ := hSw; go_simp; try with_reducible rfl)
              try simp only [Act.put, List.setIfInBounds_toArray, List.set_cons_zero, List.set_cons_succ]
              refine wpAnyG_take (i := 4) (v := ?v4x23) rfl (by as_aux_lemma => kernel_rfl) (fun _ _ _ h => h) (Or.inl ⟨by rfl, ?y4x23⟩) hHeld ?r4x23
              case y4x23 => (intro wS hSw; obtain ⟨s1, s2, s3, s4, s5, s6, s7⟩ := hSw; go_simp; try with_reducible rfl)
              try simp only [Act.put, List.setIfInBounds_toArray, List.set_cons_zero, List.set_cons_succ]
              refine wpAnyG_take (i := 5) (v := ?v5x24) rfl (by as_aux_lemma => kernel_rfl) (fun _ _ _ h => h) (Or.inl ⟨by rfl, ?y5x24⟩) hHeld ?r5x24
              case y5x24 => (intro wS hSw; obtain ⟨s1, s2, s3, s4, s5, s6, s7⟩ := hSw; go_simp; try with_reducible rfl)
              try simp only [Act.put, List.setIfInBounds_toArray, List.set_cons_zero, List.set_cons_succ]
              refine wpAnyG_take (i := 6) (v := ?v6x25) rfl (by as_aux_lemma => kernel_rfl) (fun _ _ _ h => h) (Or.inl ⟨by rfl, ?y6x25⟩) hHeld ?r6x25
              case y6x25 => (intro wS hSw; obtain ⟨s1, s2, s3, s4, s5, s6, s7⟩ := hSw; go_simp; try with_reducible rfl)
              try simp only [Act.put, List.setIfInBounds_toArray, List.set_cons_zero, List.set_cons_succ]
              refine wpAnyG_take (i := 7) (v := ?v7x26) rfl (by as_aux_lemma => kernel_rfl) (fun _ _ _ h => h) (Or.inl ⟨by rfl, ?y7x26⟩) hHeld ?r7x26
              case y7x26 => (intro wS hSw; obtain ⟨s1, s2, s3, s4, s5, s6, s7⟩ := hSw; go_simp; try with_reducible rfl)
              try simp only [Act.put, List.setIfInBounds_toArray, List.set_cons_zero, List.set_cons_succ]
              refine wpAnyG_take (i := 8) (v := ?v8x27) rfl (by as_aux_lemma => kernel_rfl) (fun _ _ _ h => h) (Or.inl ⟨by rfl, ?y8x27⟩) hHeld ?r8x27
              case y8x27 => (intro wS hSw; obtain ⟨s1, s2, s3, s4, s5, s6, s7⟩ := hSw; go_simp; try with_reducible rfl)
              try simp only [Act.put, List.setIfInBounds_toArray, List.set_cons_zero, List.set_cons_succ]
              refine wpAnyG_take (i := 9) (v := ?v9x28) rfl (by as_aux_lemma => kernel_rfl) (fun _ _ _ h => h) (Or.inl ⟨by rfl, ?y9x28⟩) hHeld ?r9x28
              case y9x28 => (intro wS hSw; obtain ⟨s1, s2, s3, s4, s5, s6, s7⟩ := hSw; go_simp; try with_reducible rfl)
              try simp only [Act.put, List.setIfInBounds_toArray, List.set_cons_zero, List.set_cons_succ]
              refine wpAnyG_take (i := 10) (v := ?v10x29) rfl (by as_aux_lemma => kernel_rfl) (fun _ _ _ h => h) (Or.inl ⟨by rfl, ?y10x29⟩) hHeld ?r10x29
              case y10x29 => (intro wS hSw; obtain ⟨s1, s2, s3, s4, s5, s6, s7⟩ := hSw; go_simp; try with_reducible rfl)
              try simp only [Act.put, List.setIfInBounds_toArray, List.set_cons_zero, List.set_cons_succ]
              refine wpAnyG_take (i := 12) (v := ?v12x30) rfl (by as_aux_lemma => kernel_rfl) (fun _ _ _ h => h) (Or.inl ⟨by rfl, ?y12x30⟩) hHeld ?r12x30
              case y12x30 => (intro wS hSw; obtain ⟨s1, s2, s3, s4, s5, s6, s7⟩ := hSw; go_simp; try with_reducible rfl)
              try simp only [Act.put, List.setIfInBounds_toArray, List.set_cons_zero, List.set_cons_succ]
              refine wpAnyG_one (i := 11) rfl (by as_aux_lemma => kernel_rfl) (fun K hK => ?_)
              go_simp
              refine (HLv.out _).mono ?_
              rintro e v1 ⟨z1, rfl, _, i1, kv1⟩
              have N1 := N0.below kv1
              have O1 := O0.below kv1
              refine hK.out _ _ (s7p_of N1 O1 HIB.out.2.2 HJB.out) ?_
              clear hK K
              try simp only [Act.put, List.setIfInBounds_toArray, List.set_cons_zero, List.set_cons_succ]
              refine wpAnyG_one (i := 13) rfl (by as_aux_lemma => kernel_rfl) (fun K hK => ?_)
              go_simp
              refine (B_any n _ (by omega) (by omega)).mono ?_
              rintro e v2 ⟨z2, rfl, _, i2, kv2⟩
              replace i1 := i1.below kv2 (Nat.le_refl _)
              have N2 := N1.below kv2
              have O2 := O1.below kv2
              refine hK.out _ _ (s7p_of N2 O2 HIB.out.2.2 HJB.out) ?_
              clear hK K
              try simp only [Act.put, List.setIfInBounds_toArray, List.set_cons_zero, List.set_cons_succ]
              refine wpAnyG_one (i := 14) rfl (by as_aux_lemma => kernel_rfl) (fun K hK => ?_)
              go_simp
              refine (Cmp_any z1 z2 n n 2 2 _ i1 i2 hnl hnl (by omega) (by omega)).mono ?_
              rw [show cmpZ n n = 0 by simp [cmpZ]]
              rintro e v3 ⟨rfl, kk, rfl⟩
              have kv3 : Below v2.heap.size v2 (v2.drewN kk) := below_drewN' (Below.refl _ _)
              have N3 := N2.below kv3
              have O3 := O2.below kv3
              refine hK.out _ _ (s7p_of N3 O3 HIB.out.2.2 HJB.out) ?_
              clear hK K
              try simp only [Act.put, List.setIfInBounds_toArray, List.set_cons_zero, List.set_cons_succ]
              clear hHeld
              have hHeld : S7p f x y x0 y0 w.heap.size b i j (v2.drewN kk) := (s7p_of N3 O3 HIB.out.2.2 HJB.out)
              refine wpAnyG_take (i := 15) (v := .bool false) rfl (by as_aux_lemma => kernel_rfl) (fun _ _ _ h => h) (Or.inl ⟨by as_aux_lemma => kernel_rfl, ?y15x31⟩) hHeld ?r15x31
              case y15x31 => (intro wS hSw; (go_simp; try rfl))
              try simp only [Act.put, List.setIfInBounds_toArray, List.set_cons_zero, List.set_cons_succ]
              refine wpAnyG_take (i := 16) (v := .bool false) rfl (by as_aux_lemma => kernel_rfl) (fun _ _ _ h => h) (Or.inl ⟨by as_aux_lemma => kernel_rfl, ?y16x32⟩) hHeld ?r16x32
              case y16x32 => (intro wS hSw; (go_simp; try rfl))
              try simp only [Act.put, List.setIfInBounds_toArray, List.set_cons_zero, List.set_cons_succ]
              refine wpAnyG_take (i := 17) (v := ?v17x33) rfl (by as_aux_lemma => kernel_rfl) (fun _ _ _ h => h) (Or.inl ⟨by as_aux_lemma => kernel_rfl, ?y17x33⟩) hHeld ?r17x33
              case y17x33 => (intro wS hSw; have s1 := hSw; go_simp; try with_reducible rfl)
              try simp only [Act.put, List.setIfInBounds_toArray, List.set_cons_zero, List.set_cons_succ]
              refine wpAnyG_take (i := 18) (v := .bool true) rfl (by as_aux_lemma => kernel_rfl) (fun _ _ _ h => h) (Or.inl ⟨by as_aux_lemma => kernel_rfl, ?y18x34⟩) hHeld ?r18x34
              case y18x34 => (intro wS hSw; (go_simp; try first | exact hi1 | simp [hi1]))
              try simp only [Act.put, List.setIfInBounds_toArray, List.set_cons_zero, List.set_cons_succ]
              refine wpAnyG_take (i := 19) (v := .bool true) rfl (by as_aux_lemma => kernel_rfl) (fun _ _ _ h => h) (Or.inl ⟨by as_aux_lemma => kernel_rfl, ?y19x35⟩) hHeld ?r19x35
              case y19x35 => (intro wS hSw; (go_simp; try rfl))
              try simp only [Act.put, List.setIfInBounds_toArray, List.set_cons_zero, List.set_cons_succ]
              refine wpAnyG_take (i := 20) (v := ?v20x36) rfl (by as_aux_lemma => kernel_rfl) (fun _ _ _ h => h) (Or.inl ⟨by as_aux_lemma => kernel_rfl, ?y20x36⟩) hHeld ?r20x36
              case y20x36 => (intro wS hSw; have s1 := hSw; go_simp; try with_reducible rfl)
              try simp only [Act.put, List.setIfInBounds_toArray, List.set_cons_zero, List.set_cons_succ]
              refine wpAnyG_take (i := 21) (v := ?v21x37) rfl (by as_aux_lemma => kernel_rfl) (fun _ _ _ h => h) (Or.inl ⟨by as_aux_lemma => kernel_rfl, ?y21x37⟩) hHeld ?r21x37
              case y21x37 => (intro wS hSw; have s1 := hSw; go_simp; try with_reducible rfl)
              try simp only [Act.put, List.setIfInBounds_toArray, List.set_cons_zero, List.set_cons_succ]
              refine wpAnyG_take (i := 22) (v := .int .i64 (j : Int)) rfl (by as_aux_lemma => kernel_rfl) (fun _ _ _ h => h) (Or.inl ⟨by as_aux_lemma => kernel_rfl, ?y22x38⟩) hHeld ?r22x38
              case y22x38 => (intro wS hSw; (go_simp; try simp only [hij]; first | exact hwj | rfl))
              try simp only [Act.put, List.setIfInBounds_toArray, List.set_cons_zero, List.set_cons_succ]
              refine wpAnyG_take (i := 23) (v := ?v23x39) rfl (by as_aux_lemma => kernel_rfl) (fun _ _ _ h => h) (Or.inl ⟨by as_aux_lemma => kernel_rfl, ?y23x39⟩) hHeld ?r23x39
              case y23x39 => (intro wS hSw; have s1 := hSw; go_simp; try with_reducible rfl)
              try simp only [Act.put, List.setIfInBounds_toArray, List.set_cons_zero, List.set_cons_succ]
              refine wpAnyG_take (i := 24) (v := ?v24x40) rfl (by as_aux_lemma => kernel_rfl) (fun _ _ _ h => h) (Or.inl ⟨by as_aux_lemma => kernel_rfl, ?y24x40⟩) hHeld ?r24x40
              case y24x40 => (intro wS hSw; have s1 := hSw; go_simp; try with_reducible rfl)
              try simp only [Act.put, List.setIfInBounds_toArray, List.set_cons_zero, List.set_cons_succ]
              refine wpAnyG_take (i := 25) (v := ?v25x41) rfl (by as_aux_lemma => kernel_rfl) (fun _ _ _ h => h) (Or.inl ⟨by as_aux_lemma => kernel_rfl, ?y25x41⟩) hHeld ?r25x41
              case y25x41 => (intro wS hSw; have s1 := hSw; go_simp; try with_reducible rfl)
              try simp only [Act.put, List.setIfInBounds_toArray, List.set_cons_zero, List.set_cons_succ]
              refine wpAnyG_take (i := 26) (v := ?v26x42) rfl (by as_aux_lemma => kernel_rfl) (fun _ _ _ h => h) (Or.inl ⟨by as_aux_lemma => kernel_rfl, ?y26x42⟩) hHeld ?r26x42
              case y26x42 => (intro wS hSw; have s1 := hSw; go_simp; try with_reducible rfl)
              try simp only [Act.put, List.setIfInBounds_toArray, List.set_cons_zero, List.set_cons_succ]
              refine wpAnyG_take (i := 27) (v := ?v27x43) rfl (by as_aux_lemma => kernel_rfl) (fun _ _ _ h => h) (Or.inl ⟨by as_aux_lemma => kernel_rfl, ?y27x43⟩) hHeld ?r27x43
              case y27x43 => (intro wS hSw; have s1 := hSw; go_simp; try with_reducible rfl)
              try simp only [Act.put, List.setIfInBounds_toArray, List.set_cons_zero, List.set_cons_succ]
              refine wpAnyG_take (i := 28) (v := ?v28x44) rfl (by as_aux_lemma => kernel_rfl) (fun _ _ _ h => h) (Or.inl ⟨by as_aux_lemma => kernel_rfl, ?y28x44⟩) hHeld ?r28x44
              case y28x44 => (intro wS hSw; have s1 := hSw; go_simp; try with_reducible rfl)
              try simp only [Act.put, List.setIfInBounds_toArray, List.set_cons_zero, List.set_cons_succ]
              refine wpAnyG_take (i := 29) (v := ?v29x45) rfl (by as_aux_lemma => kernel_rfl) (fun _ _ _ h => h) (Or.inl ⟨by as_aux_lemma => kernel_rfl, ?y29x45⟩) hHeld ?r29x45
              case y29x45 => (intro wS hSw; have s1 := hSw; go_simp; try with_reducible rfl)
              try simp only [Act.put, List.setIfInBounds_toArray, List.set_cons_zero, List.set_cons_succ]
              refine wpAnyG_take (i := 30) (v := ?v30x46) rfl (by as_aux_lemma => kernel_rfl) (fun _ _ _ h => h) (Or.inl ⟨by as_aux_lemma => kernel_rfl, ?y30x46⟩) hHeld ?r30x46
              case y30x46 => (intro wS hSw; have s1 := hSw; go_simp; try with_reducible rfl)
              try simp only [Act.put, List.setIfInBounds_toArray, List.set_cons_zero, List.set_cons_succ]
              refine wpAnyG_take (i := 31) (v := .bool false) rfl (by as_aux_lemma => kernel_rfl) (fun _ _ _ h => h) (Or.inl ⟨by as_aux_lemma => kernel_rfl, ?y31x47⟩) hHeld ?r31x47
              case y31x47 => (intro wS hSw; (go_simp; try simp only [hgt]))
              try simp only [Act.put, List.setIfInBounds_toArray, List.set_cons_zero, List.set_cons_succ]
              refine wpAnyG_take (i := 32) (v := .bool false) rfl (by as_aux_lemma => kernel_rfl) (fun _ _ _ h => h) (Or.inl ⟨by as_aux_lemma => kernel_rfl, ?y32x48⟩) hHeld ?r32x48
              case y32x48 => (intro wS hSw; (go_simp; try rfl))
              try simp only [Act.put, List.setIfInBounds_toArray, List.set_cons_zero, List.set_cons_succ]
              refine wpAnyG_take (i := 33) (v := ?v33x49) rfl (by as_aux_lemma => kernel_rfl) (fun _ _ _ h => h) (Or.inl ⟨by as_aux_lemma => kernel_rfl, ?y33x49⟩) hHeld ?r33x49
              case y33x49 => (intro wS hSw; have s1 := hSw; go_simp; try with_reducible rfl)
              try simp only [Act.put, List.setIfInBounds_toArray, List.set_cons_zero, List.set_cons_succ]
              refine wpAnyG_take (i := 34) (v := ?v34x50) rfl (by as_aux_lemma => kernel_rfl) (fun _ _ _ h => h) (Or.inl ⟨by as_aux_lemma => kernel_rfl, ?y34x50⟩) hHeld ?r34x50
              case y34x50 => (intro wS hSw; have s1 := hSw; go_simp; try with_reducible rfl)
              try simp only [Act.put, List.setIfInBounds_toArray, List.set_cons_zero, List.set_cons_succ]
              refine wpAnyG_take (i := 35) (v := .int .i64 (j : Int)) rfl (by as_aux_lemma => kernel_rfl) (fun _ _ _ h => h) (Or.inl ⟨by as_aux_lemma => kernel_rfl, ?y35x51⟩) hHeld ?r35x51
              case y35x51 => (intro wS hSw; (go_simp; try simp only [hij]; first | exact hwj | rfl))
              try simp only [Act.put, List.setIfInBounds_toArray, List.set_cons_zero, List.set_cons_succ]
              refine wpAnyG_take (i := 36) (v := ?v36x52) rfl (by as_aux_lemma => kernel_rfl) (fun _ _ _ h => h) (Or.inl ⟨by as_aux_lemma => kernel_rfl, ?y36x52⟩) hHeld ?r36x52
              case y36x52 => (intro wS hSw; have s1 := hSw; go_simp; try with_reducible rfl)
              try simp only [Act.put, List.setIfInBounds_toArray, List.set_cons_zero, List.set_cons_succ]
              refine wpAnyG_take (i := 37) (v := ?v37x53) rfl (by as_aux_lemma => kernel_rfl) (fun _ _ _ h => h) (Or.inl ⟨by as_aux_lemma => kernel_rfl, ?y37x53⟩) hHeld ?r37x53
              case y37x53 => (intro wS hSw; have s1 := hSw; go_simp; try with_reducible rfl)
              try simp only [Act.put, List.setIfInBounds_toArray, List.set_cons_zero, List.set_cons_succ]
              refine wpAnyG_take (i := 38) (v := ?v38x54) rfl (by as_aux_lemma => kernel_rfl) (fun _ _ _ h => h) (Or.inl ⟨by as_aux_lemma => kernel_rfl, ?y38x54⟩) hHeld ?r38x54
              case y38x54 => (intro wS hSw; have s1 := hSw; go_simp; try with_reducible rfl)
              try simp only [Act.put, List.setIfInBounds_toArray, List.set_cons_zero, List.set_cons_succ]
              refine wpAnyG_take (i := 39) (v := ?v39x55) rfl (by as_aux_lemma => kernel_rfl) (fun _ _ _ h => h) (Or.inl ⟨by as_aux_lemma => kernel_rfl, ?y39x55⟩) hHeld ?r39x55
              case y39x55 => (intro wS hSw; have s1 := hSw; go_simp; try with_reducible rfl)
              try simp only [Act.put, List.setIfInBounds_toArray, List.set_cons_zero, List.set_cons_succ]
              refine wpAnyG_take (i := 40) (v := ?v40x56) rfl (by as_aux_lemma => kernel_rfl) (fun _ _ _ h => h) (Or.inl ⟨by as_aux_lemma => kernel_rfl, ?y40x56⟩) hHeld ?r40x56
              case y40x56 => (intro wS hSw; have s1 := hSw; go_simp; try with_reducible rfl)
              try simp only [Act.put, List.setIfInBounds_toArray, List.set_cons_zero, List.set_cons_succ]
              refine wpAnyG_take (i := 41) (v := ?v41x57) rfl (by as_aux_lemma => kernel_rfl) (fun _ _ _ h => h) (Or.inl ⟨by as_aux_lemma => kernel_rfl, ?y41x57⟩) hHeld ?r41x57
              case y41x57 => (intro wS hSw; have s1 := hSw; go_simp; try with_reducible rfl)
              try simp only [Act.put, List.setIfInBounds_toArray, List.set_cons_zero, List.set_cons_succ]
              refine wpAnyG_take (i := 42) (v := ?v42x58) rfl (by as_aux_lemma => kernel_rfl) (fun _ _ _ h => h) (Or.inl ⟨by as_aux_lemma => kernel_rfl, ?y42x58⟩) hHeld ?r42x58
              case y42x58 => (intro wS hSw; have s1 := hSw; go_simp; try with_reducible rfl)
              try simp only [Act.put, List.setIfInBounds_toArray, List.set_cons_zero, List.set_cons_succ]
              refine wpAnyG_take (i := 43) (v := ?v43x59) rfl (by as_aux_lemma => kernel_rfl) (fun _ _ _ h => h) (Or.inl ⟨by as_aux_lemma => kernel_rfl, ?y43x59⟩) hHeld ?r43x59
              case y43x59 => (intro wS hSw; have s1 := hSw; go_simp; try with_reducible rfl)
              try simp only [Act.put, List.setIfInBounds_toArray, List.set_cons_zero, List.set_cons_succ]
              refine wpAnyG_take (i := 44) (v := .bool false) rfl (by as_aux_lemma => kernel_rfl) (fun _ _ _ h => h) (Or.inl ⟨by as_aux_lemma => kernel_rfl, ?y44x60⟩) hHeld ?r44x60
              case y44x60 => (intro wS hSw; (go_simp; try simp only [heq]))
              try simp only [Act.put, List.setIfInBounds_toArray, List.set_cons_zero, List.set_cons_succ]
              refine wpAnyG_take (i := 45) (v := .bool false) rfl (by as_aux_lemma => kernel_rfl) (fun _ _ _ h => h) (Or.inl ⟨by as_aux_lemma => kernel_rfl, ?y45x61⟩) hHeld ?r45x61
              case y45x61 => (intro wS hSw; (go_simp; try rfl))
              try simp only [Act.put, List.setIfInBounds_toArray, List.set_cons_zero, List.set_cons_succ]
              refine wpAnyG_take (i := 46) (v := undef) rfl (by as_aux_lemma => kernel_rfl) (fun _ _ _ h => h) (Or.inr ⟨by as_aux_lemma => kernel_rfl, rfl⟩) hHeld ?_
              try simp only [Act.put, List.setIfInBounds_toArray, List.set_cons_zero, List.set_cons_succ]
              refine wpAnyG_take (i := 47) (v := undef) rfl (by as_aux_lemma => kernel_rfl) (fun _ _ _ h => h) (Or.inr ⟨by as_aux_lemma => kernel_rfl, rfl⟩) hHeld ?_
              try simp only [Act.put, List.setIfInBounds_toArray, List.set_cons_zero, List.set_cons_succ]
              refine wpAnyG_take (i := 48) (v := undef) rfl (by as_aux_lemma => kernel_rfl) (fun _ _ _ h => h) (Or.inr ⟨by as_aux_lemma => kernel_rfl, rfl⟩) hHeld ?_
              try simp only [Act.put, List.setIfInBounds_toArray, List.set_cons_zero, List.set_cons_succ]
              refine wpAnyG_take (i := 49) (v := undef) rfl (by as_aux_lemma => kernel_rfl) (fun _ _ _ h => h) (Or.inr ⟨by as_aux_lemma => kernel_rfl, rfl⟩) hHeld ?_
              try simp only [Act.put, List.setIfInBounds_toArray, List.set_cons_zero, List.set_cons_succ]
              refine wpAnyG_take (i := 50) (v := undef) rfl (by as_aux_lemma => kernel_rfl) (fun _ _ _ h => h) (Or.inr ⟨by as_aux_lemma => kernel_rfl, rfl⟩) hHeld ?_
              try simp only [Act.put, List.setIfInBounds_toArray, List.set_cons_zero, List.set_cons_succ]
              refine wpAnyG_take (i := 51) (v := undef) rfl (by as_aux_lemma => kernel_rfl) (fun _ _ _ h => h) (Or.inr ⟨by as_aux_lemma => kernel_rfl, rfl⟩) hHeld ?_
              try simp only [Act.put, List.setIfInBounds_toArray, List.set_cons_zero, List.set_cons_succ]
              refine wpAnyG_take (i := 52) (v := undef) rfl (by as_aux_lemma => kernel_rfl) (fun _ _ _ h => h) (Or.inr ⟨by as_aux_lemma => kernel_rfl, rfl⟩) hHeld ?_
              try simp only [Act.put, List.setIfInBounds_toArray, List.set_cons_zero, List.set_cons_succ]
              refine wpAnyG_take (i := 53) (v := undef) rfl (by as_aux_lemma => kernel_rfl) (fun _ _ _ h => h) (Or.inr ⟨by as_aux_lemma => kernel_rfl, rfl⟩) hHeld ?_
              try simp only [Act.put, List.setIfInBounds_toArray, List.set_cons_zero, List.set_cons_succ]
              refine wpAnyG_take (i := 54) (v := undef) rfl (by as_aux_lemma => kernel_rfl) (fun _ _ _ h => h) (Or.inr ⟨by as_aux_lemma => kernel_rfl, rfl⟩) hHeld ?_
              try simp only [Act.put, List.setIfInBounds_toArray, List.set_cons_zero, List.set_cons_succ]
              refine wpAnyG_take (i := 55) (v := undef) rfl (by as_aux_lemma => kernel_rfl) (fun _ _ _ h => h) (Or.inr ⟨by as_aux_lemma => kernel_rfl, rfl⟩) hHeld ?_
              try simp only [Act.put, List.setIfInBounds_toArray, List.set_cons_zero, List.set_cons_succ]
              refine wpAnyG_take (i := 56) (v := undef) rfl (by as_aux_lemma => kernel_rfl) (fun _ _ _ h => h) (Or.inr ⟨by as_aux_lemma => kernel_rfl, rfl⟩) hHeld ?_
              try simp only [Act.put, List.setIfInBounds_toArray, List.set_cons_zero, List.set_cons_succ]
              refine wpAnyG_take (i := 57) (v := undef) rfl (by as_aux_lemma => kernel_rfl) (fun _ _ _ h => h) (Or.inr ⟨by as_aux_lemma => kernel_rfl, rfl⟩) hHeld ?_
              try simp only [Act.put, List.setIfInBounds_toArray, List.set_cons_zero, List.set_cons_succ]
              refine wpAnyG_take (i := 58) (v := .bool false) rfl (by as_aux_lemma => kernel_rfl) (fun _ _ _ h => h) (Or.inl ⟨by as_aux_lemma => kernel_rfl, ?y58x62⟩) hHeld ?r58x62
              case y58x62 => (intro wS hSw; (go_simp; try rfl))
              try simp only [Act.put, List.setIfInBounds_toArray, List.set_cons_zero, List.set_cons_succ]
              refine wpAnyG_take (i := 59) (v := .bool false) rfl (by as_aux_lemma => kernel_rfl) (fun _ _ _ h => h) (Or.inl ⟨by as_aux_lemma => kernel_rfl, ?y59x63⟩) hHeld ?r59x63
              case y59x63 => (intro wS hSw; (go_simp; try rfl))
              try simp only [Act.put, List.setIfInBounds_toArray, List.set_cons_zero, List.set_cons_succ]
              refine wpAnyG_take (i := 60) (v := .bool false) rfl (by as_aux_lemma => kernel_rfl) (fun _ _ _ h => h) (Or.inl ⟨by as_aux_lemma => kernel_rfl, ?y60x64⟩) hHeld ?r60x64
              case y60x64 => (intro wS hSw; (go_simp; try rfl))
              try simp only [Act.put, List.setIfInBounds_toArray, List.set_cons_zero, List.set_cons_succ]
              refine wpAnyG_last (i := 61) rfl (by as_aux_lemma => kernel_rfl) (by as_aux_lemma => kernel_rfl) (fun K hK => ?_)
              go_simp
              refine hK.out _ _ ?_
              clear hK K
              try simp only [Act.put, List.setIfInBounds_toArray, List.set_cons_zero, List.set_cons_succ]
              refine wpAnyG_done (by as_aux_lemma => kernel_rfl) ?_ _
              have HMe : Hid (Ms [(w2.heap.size, [.int .i64 0, .int .i64 0], 24), (w1.heap.size, [.int .i64 0, .int .i64 0], 24), (w.heap.size, f.l, 32)] w (v2.drewN kk)) := N3
              have HPe : Hid (Pl (some ⟨b, 0, none⟩) l (v2.drewN kk)) := O3
              clear hHeld N0 N1 N2 N3 O0 O1 O2 O3 HMr HPr hij hi1 hwj
              go_wp2
              go_roundg (l.length - (i + 1))
              case rel => exact ⟨i + 1, by go_num, by omega, rfl, HMe.out, HPe.out⟩
              case measure => have := HGk.out; omega
            · have hxx : x0 = x := hxe
              have hge : decide (y ≤ y0) = false := decide_eq_false (by have h3 : y0 < y := hlt; omega)
              have hgt : decide (x < x0) = false := decide_eq_false (by omega)
              have heq : (x0 == x) = true := beq_iff_eq.2 hxx
              clear hlt hxe hxx
              go_wp2_with fail
              refine wp_region_G (S7p f x y x0 y0 w.heap.size b i j) 61 (by as_aux_lemma => kernel_rfl) S0 (fun hHeld => ?_)
              clear S0
              have N0 := HMr.out.below ((Below.refl wr.heap.size wr).drew)
              have O0 := HPr.out.below ((Below.refl wr.heap.size wr).drew)
              refine wpAnyG_take (i := 0) (v := ?v0x65) rfl (by as_aux_lemma => kernel_rfl) (fun _ _ _ h => h) (Or.inl ⟨by rfl, ?y0x65⟩) hHeld ?r0x65
              case y0x65 => (intro wS hSw; obtain ⟨s1, s2, s3, s4, s5, s6, s7⟩ := hSw; go_simp; try with_reducible rfl)
              try simp only [Act.put, List.setIfInBounds_toArray, List.set_cons_zero, List.set_cons_succ]
              refine wpAnyG_take (i := 1) (v := ?v1x66) rfl (by as_aux_lemma => kernel_rfl) (fun _ _ _ h => h) (Or.inl ⟨by rfl, ?y1x66⟩) hHeld ?r1x66
              case y1x66 => (intro wS hSw; obtain ⟨s1, s2, s3, s4, s5, s6, s7⟩ := hSw; go_simp; try with_reducible rfl)
              try simp only [Act.put, List.setIfInBounds_toArray, List.set_cons_zero, List.set_cons_succ]
              refine wpAnyG_take (i := 2) (v := ?v2x67) rfl (by as_aux_lemma => kernel_rfl) (fun _ _ _ h => h) (Or.inl ⟨by rfl, ?y2x67⟩) hHeld ?r2x67
              case y2x67 => (intro wS hSw; obtain ⟨s1, s2, s3, s4, s5, s6, s7⟩ := hSw; go_simp; try with_reducible rfl)
              try simp only [Act.put, List.setIfInBounds_toArray, List.set_cons_zero, List.set_cons_succ]
              refine wpAnyG_take (i := 3) (v := ?v3x68) rfl (by as_aux_lemma => kernel_rfl) (fun _ _ _ h => h) (Or.inl ⟨by rfl, ?y3x68⟩) hHeld ?r3x68
              case y3x68 => (intro wS hSw; obtain ⟨s1, s2, s3, s4, s5, s6, s7⟩ := hSw; go_simp; try with_reducible rfl)
              try simp only [Act.put, List.setIfInBounds_toArray, List.set_cons_zero, List.set_cons_succ]
              refine wpAnyG_take (i := 4) (v := ?v4x69) rfl (by as_aux_lemma => kernel_rfl) (fun _ _ _ h => h) (Or.inl ⟨by rfl, ?y4x69⟩) hHeld ?r4x69
              case y4x69 => (intro wS hSw; obtain ⟨s1, s2, s3, s4, s5, s6, s7⟩ := hSw; go_simp; try with_reducible rfl)
              try simp only [Act.put, List.setIfInBounds_toArray, List.set_cons_zero, List.set_cons_succ]
              refine wpAnyG_take (i := 5) (v := ?v5x70) rfl (by as_aux_lemma => kernel_rfl) (fun _ _ _ h => h) (Or.inl ⟨by rfl, ?y5x70⟩) hHeld ?r5x70
              case y5x70 => (intro wS hSw; obtain ⟨s1, s2, s3, s4, s5, s6, s7⟩ := hSw; go_simp; try with_reducible rfl)
              try simp only [Act.put, List.setIfInBounds_toArray, List.set_cons_zero, List.set_cons_succ]
              refine wpAnyG_take (i := 6) (v := ?v6x71) rfl (by as_aux_lemma => kernel_rfl) (fun _ _ _ h => h) (Or.inl ⟨by rfl, ?y6x71⟩) hHeld ?r6x71
              case y6x71 => (intro wS hSw; obtain ⟨s1, s2, s3, s4, s5, s6, s7⟩ := hSw; go_simp; try with_reducible rfl)
              try simp only [Act.put, List.setIfInBounds_toArray, List.set_cons_zero, List.set_cons_succ]
              refine wpAnyG_take (i := 7) (v := ?v7x72) rfl (by as_aux_lemma => kernel_rfl) (fun _ _ _ h => h) (Or.inl ⟨by rfl, ?y7x72⟩) hHeld ?r7x72
              case y7x72 => (intro wS hSw; obtain ⟨s1, s2, s3, s4, s5, s6, s7⟩ := hSw; go_simp; try with_reducible rfl)
              try simp only [Act.put, List.setIfInBounds_toArray, List.set_cons_zero, List.set_cons_succ]
              refine wpAnyG_take (i := 8) (v := ?v8x73) rfl (by as_aux_lemma => kernel_rfl) (fun _ _ _ h => h) (Or.inl ⟨by rfl, ?y8x73⟩) hHeld ?r8x73
              case y8x73 => (intro wS hSw; obtain ⟨s1, s2, s3, s4, s5, s6, s7⟩ := hSw; go_simp; try with_reducible rfl)
              try simp only [Act.put, List.setIfInBounds_toArray, List.set_cons_zero, List.set_cons_succ]
              refine wpAnyG_take (i := 9) (v := ?v9x74) rfl (by as_aux_lemma => kernel_rfl) (fun _ _ _ h => h) (Or.inl ⟨by rfl, ?y9x74⟩) hHeld ?r9x74
              case y9x74 => (intro wS hSw; obtain ⟨s1, s2, s3, s4, s5, s6, s7⟩ := hSw; go_simp; try with_reducible rfl)
              try simp only [Act.put, List.setIfInBounds_toArray, List.set_cons_zero, List.set_cons_succ]
              refine wpAnyG_take (i := 10) (v := ?v10x75) rfl (by as_aux_lemma => kernel_rfl) (fun _ _ _ h => h) (Or.inl ⟨by rfl, ?y10x75⟩) hHeld ?r10x75
              case y10x75 => (intro wS hSw; obtain ⟨s1, s2, s3, s4, s5, s6, s7⟩ := hSw; go_simp; try with_reducible rfl)
              try simp only [Act.put, List.setIfInBounds_toArray, List.set_cons_zero, List.set_cons_succ]
              refine wpAnyG_take (i := 12) (v := ?v12x76) rfl (by as_aux_lemma => kernel_rfl) (fun _ _ _ h => h) (Or.inl ⟨by rfl, ?y12x76⟩) hHeld ?r12x76
              case y12x76 => (intro wS hSw; obtain ⟨s1, s2, s3, s4, s5, s6, s7⟩ := hSw; go_simp; try with_reducible rfl)
              try simp only [Act.put, List.setIfInBounds_toArray, List.set_cons_zero, List.set_cons_succ]
              refine wpAnyG_one (i := 11) rfl (by as_aux_lemma => kernel_rfl) (fun K hK => ?_)
              go_simp
              refine (HLv.out _).mono ?_
              rintro e v1 ⟨z1, rfl, _, i1, kv1⟩
              have N1 := N0.below kv1
              have O1 := O0.below kv1
              refine hK.out _ _ (s7p_of N1 O1 HIB.out.2.2 HJB.out) ?_
              clear hK K
              try simp only [Act.put, List.setIfInBounds_toArray, List.set_cons_zero, List.set_cons_succ]
              refine wpAnyG_one (i := 13) rfl (by as_aux_lemma => kernel_rfl) (fun K hK => ?_)
              go_simp
              refine (B_any n _ (by omega) (by omega)).mono ?_
              rintro e v2 ⟨z2, rfl, _, i2, kv2⟩
              replace i1 := i1.below kv2 (Nat.le_refl _)
              have N2 := N1.below kv2
              have O2 := O1.below kv2
              refine hK.out _ _ (s7p_of N2 O2 HIB.out.2.2 HJB.out) ?_
              clear hK K
              try simp only [Act.put, List.setIfInBounds_toArray, List.set_cons_zero, List.set_cons_succ]
              refine wpAnyG_one (i := 14) rfl (by as_aux_lemma => kernel_rfl) (fun K hK => ?_)
              go_simp
              refine (Cmp_any z1 z2 n n 2 2 _ i1 i2 hnl hnl (by omega) (by omega)).mono ?_
              rw [show cmpZ n n = 0 by simp [cmpZ]]
              rintro e v3 ⟨rfl, kk, rfl⟩
              have kv3 : Below v2.heap.size v2 (v2.drewN kk) := below_drewN' (Below.refl _ _)
              have N3 := N2.below kv3
              have O3 := O2.below kv3
              refine hK.out _ _ (s7p_of N3 O3 HIB.out.2.2 HJB.out) ?_
              clear hK K
              try simp only [Act.put, List.setIfInBounds_toArray, List.set_cons_zero, List.set_cons_succ]
              clear hHeld
              have hHeld : S7p f x y x0 y0 w.heap.size b i j (v2.drewN kk) := (s7p_of N3 O3 HIB.out.2.2 HJB.out)
              refine wpAnyG_take (i := 15) (v := .bool false) rfl (by as_aux_lemma => kernel_rfl) (fun _ _ _ h => h) (Or.inl ⟨by as_aux_lemma => kernel_rfl, ?y15x77⟩) hHeld ?r15x77
              case y15x77 => (intro wS hSw; (go_simp; try rfl))
              try simp only [Act.put, List.setIfInBounds_toArray, List.set_cons_zero, List.set_cons_succ]
              refine wpAnyG_take (i := 16) (v := .bool false) rfl (by as_aux_lemma => kernel_rfl) (fun _ _ _ h => h) (Or.inl ⟨by as_aux_lemma => kernel_rfl, ?y16x78⟩) hHeld ?r16x78
              case y16x78 => (intro wS hSw; (go_simp; try rfl))
              try simp only [Act.put, List.setIfInBounds_toArray, List.set_cons_zero, List.set_cons_succ]
              refine wpAnyG_take (i := 17) (v := ?v17x79) rfl (by as_aux_lemma => kernel_rfl) (fun _ _ _ h => h) (Or.inl ⟨by as_aux_lemma => kernel_rfl, ?y17x79⟩) hHeld ?r17x79
              case y17x79 => (intro wS hSw; have s1 := hSw; go_simp; try with_reducible rfl)
              try simp only [Act.put, List.setIfInBounds_toArray, List.set_cons_zero, List.set_cons_succ]
              refine wpAnyG_take (i := 18) (v := .bool true) rfl (by as_aux_lemma => kernel_rfl) (fun _ _ _ h => h) (Or.inl ⟨by as_aux_lemma => kernel_rfl, ?y18x80⟩) hHeld ?r18x80
              case y18x80 => (intro wS hSw; (go_simp; try first | exact hi1 | simp [hi1]))
              try simp only [Act.put, List.setIfInBounds_toArray, List.set_cons_zero, List.set_cons_succ]
              refine wpAnyG_take (i := 19) (v := .bool true) rfl (by as_aux_lemma => kernel_rfl) (fun _ _ _ h => h) (Or.inl ⟨by as_aux_lemma => kernel_rfl, ?y19x81⟩) hHeld ?r19x81
              case y19x81 => (intro wS hSw; (go_simp; try rfl))
              try simp only [Act.put, List.setIfInBounds_toArray, List.set_cons_zero, List.set_cons_succ]
              refine wpAnyG_take (i := 20) (v := ?v20x82) rfl (by as_aux_lemma => kernel_rfl) (fun _ _ _ h => h) (Or.inl ⟨by as_aux_lemma => kernel_rfl, ?y20x82⟩) hHeld ?r20x82
              case y20x82 => (intro wS hSw; have s1 := hSw; go_simp; try with_reducible rfl)
              try simp only [Act.put, List.setIfInBounds_toArray, List.set_cons_zero, List.set_cons_succ]
              refine wpAnyG_take (i := 21) (v := ?v21x83) rfl (by as_aux_lemma => kernel_rfl) (fun _ _ _ h => h) (Or.inl ⟨by as_aux_lemma => kernel_rfl, ?y21x83⟩) hHeld ?r21x83
              case y21x83 => (intro wS hSw; have s1 := hSw; go_simp; try with_reducible rfl)
              try simp only [Act.put, List.setIfInBounds_toArray, List.set_cons_zero, List.set_cons_succ]
              refine wpAnyG_take (i := 22) (v := .int .i64 (j : Int)) rfl (by as_aux_lemma => kernel_rfl) (fun _ _ _ h => h) (Or.inl ⟨by as_aux_lemma => kernel_rfl, ?y22x84⟩) hHeld ?r22x84
              case y22x84 => (intro wS hSw; (go_simp; try simp only [hij]; first | exact hwj | rfl))
              try simp only [Act.put, List.setIfInBounds_toArray, List.set_cons_zero, List.set_cons_succ]
              refine wpAnyG_take (i := 23) (v := ?v23x85) rfl (by as_aux_lemma => kernel_rfl) (fun _ _ _ h => h) (Or.inl ⟨by as_aux_lemma => kernel_rfl, ?y23x85⟩) hHeld ?r23x85
              case y23x85 => (intro wS hSw; have s1 := hSw; go_simp; try with_reducible rfl)
              try simp only [Act.put, List.setIfInBounds_toArray, List.set_cons_zero, List.set_cons_succ]
              refine wpAnyG_take (i := 24) (v := ?v24x86) rfl (by as_aux_lemma => kernel_rfl) (fun _ _ _ h => h) (Or.inl ⟨by as_aux_lemma => kernel_rfl, ?y24x86⟩) hHeld ?r24x86
              case y24x86 => (intro wS hSw; have s1 := hSw; go_simp; try with_reducible rfl)
              try simp only [Act.put, List.setIfInBounds_toArray, List.set_cons_zero, List.set_cons_succ]
              refine wpAnyG_take (i := 25) (v := ?v25x87) rfl (by as_aux_lemma => kernel_rfl) (fun _ _ _ h => h) (Or.inl ⟨by as_aux_lemma => kernel_rfl, ?y25x87⟩) hHeld ?r25x87
              case y25x87 => (intro wS hSw; have s1 := hSw; go_simp; try with_reducible rfl)
              try simp only [Act.put, List.setIfInBounds_toArray, List.set_cons_zero, List.set_cons_succ]
              refine wpAnyG_take (i := 26) (v := ?v26x88) rfl (by as_aux_lemma => kernel_rfl) (fun _ _ _ h => h) (Or.inl ⟨by as_aux_lemma => kernel_rfl, ?y26x88⟩) hHeld ?r26x88
              case y26x88 => (intro wS hSw; have s1 := hSw; go_simp; try with_reducible rfl)
              try simp only [Act.put, List.setIfInBounds_toArray, List.set_cons_zero, List.set_cons_succ]
              refine wpAnyG_take (i := 27) (v := ?v27x89) rfl (by as_aux_lemma => kernel_rfl) (fun _ _ _ h => h) (Or.inl ⟨by as_aux_lemma => kernel_rfl, ?y27x89⟩) hHeld ?r27x89
              case y27x89 => (intro wS hSw; have s1 := hSw; go_simp; try with_reducible rfl)
              try simp only [Act.put, List.setIfInBounds_toArray, List.set_cons_zero, List.set_cons_succ]
              refine wpAnyG_take (i := 28) (v := ?v28x90) rfl (by as_aux_lemma => kernel_rfl) (fun _ _ _ h => h) (Or.inl ⟨by as_aux_lemma => kernel_rfl, ?y28x90⟩) hHeld ?r28x90
              case y28x90 => (intro wS hSw; have s1 := hSw; go_simp; try with_reducible rfl)
              try simp only [Act.put, List.setIfInBounds_toArray, List.set_cons_zero, List.set_cons_succ]
              refine wpAnyG_take (i := 29) (v := ?v29x91) rfl (by as_aux_lemma => kernel_rfl) (fun _ _ _ h => h) (Or.inl ⟨by as_aux_lemma => kernel_rfl, ?y29x91⟩) hHeld ?r29x91
              case y29x91 => (intro wS hSw; have s1 := hSw; go_simp; try with_reducible rfl)
              try simp only [Act.put, List.setIfInBounds_toArray, List.set_cons_zero, List.set_cons_succ]
              refine wpAnyG_take (i := 30) (v := ?v30x92) rfl (by as_aux_lemma => kernel_rfl) (fun _ _ _ h => h) (Or.inl ⟨by as_aux_lemma => kernel_rfl, ?y30x92⟩) hHeld ?r30x92
              case y30x92 => (intro wS hSw; have s1 := hSw; go_simp; try with_reducible rfl)
              try simp only [Act.put, List.setIfInBounds_toArray, List.set_cons_zero, List.set_cons_succ]
              refine wpAnyG_take (i := 31) (v := .bool false) rfl (by as_aux_lemma => kernel_rfl) (fun _ _ _ h => h) (Or.inl ⟨by as_aux_lemma => kernel_rfl, ?y31x93⟩) hHeld ?r31x93
              case y31x93 => (intro wS hSw; (go_simp; try simp only [hgt]))
              try simp only [Act.put, List.setIfInBounds_toArray, List.set_cons_zero, List.set_cons_succ]
              refine wpAnyG_take (i := 32) (v := .bool false) rfl (by as_aux_lemma => kernel_rfl) (fun _ _ _ h => h) (Or.inl ⟨by as_aux_lemma => kernel_rfl, ?y32x94⟩) hHeld ?r32x94
              case y32x94 => (intro wS hSw; (go_simp; try rfl))
              try simp only [Act.put, List.setIfInBounds_toArray, List.set_cons_zero, List.set_cons_succ]
              refine wpAnyG_take (i := 33) (v := ?v33x95) rfl (by as_aux_lemma => kernel_rfl) (fun _ _ _ h => h) (Or.inl ⟨by as_aux_lemma => kernel_rfl, ?y33x95⟩) hHeld ?r33x95
              case y33x95 => (intro wS hSw; have s1 := hSw; go_simp; try with_reducible rfl)
              try simp only [Act.put, List.setIfInBounds_toArray, List.set_cons_zero, List.set_cons_succ]
              refine wpAnyG_take (i := 34) (v := ?v34x96) rfl (by as_aux_lemma => kernel_rfl) (fun _ _ _ h => h) (Or.inl ⟨by as_aux_lemma => kernel_rfl, ?y34x96⟩) hHeld ?r34x96
              case y34x96 => (intro wS hSw; have s1 := hSw; go_simp; try with_reducible rfl)
              try simp only [Act.put, List.setIfInBounds_toArray, List.set_cons_zero, List.set_cons_succ]
              refine wpAnyG_take (i := 35) (v := .int .i64 (j : Int)) rfl (by as_aux_lemma => kernel_rfl) (fun _ _ _ h => h) (Or.inl ⟨by as_aux_lemma => kernel_rfl, ?y35x97⟩) hHeld ?r35x97
              case y35x97 => (intro wS hSw; (go_simp; try simp only [hij]; first | exact hwj | rfl))
              try simp only [Act.put, List.setIfInBounds_toArray, List.set_cons_zero, List.set_cons_succ]
              refine wpAnyG_take (i := 36) (v := ?v36x98) rfl (by as_aux_lemma => kernel_rfl) (fun _ _ _ h => h) (Or.inl ⟨by as_aux_lemma => kernel_rfl, ?y36x98⟩) hHeld ?r36x98
              case y36x98 => (intro wS hSw; have s1 := hSw; go_simp; try with_reducible rfl)
              try simp only [Act.put, List.setIfInBounds_toArray, List.set_cons_zero, List.set_cons_succ]
              refine wpAnyG_take (i := 37) (v := ?v37x99) rfl (by as_aux_lemma => kernel_rfl) (fun _ _ _ h => h) (Or.inl ⟨by as_aux_lemma => kernel_rfl, ?y37x99⟩) hHeld ?r37x99
              case y37x99 => (intro wS hSw; have s1 := hSw; go_simp; try with_reducible rfl)
              try simp only [Act.put, List.setIfInBounds_toArray, List.set_cons_zero, List.set_cons_succ]
              refine wpAnyG_take (i := 38) (v := ?v38x100) rfl (by as_aux_lemma => kernel_rfl) (fun _ _ _ h => h) (Or.inl ⟨by as_aux_lemma => kernel_rfl, ?y38x100⟩) hHeld ?r38x100
              case y38x100 => (intro wS hSw; have s1 := hSw; go_simp; try with_reducible rfl)
              try simp only [Act.put, List.setIfInBounds_toArray, List.set_cons_zero, List.set_cons_succ]
              refine wpAnyG_take (i := 39) (v := ?v39x101) rfl (by as_aux_lemma => kernel_rfl) (fun _ _ _ h => h) (Or.inl ⟨by as_aux_lemma => kernel_rfl, ?y39x101⟩) hHeld ?r39x101
              case y39x101 => (intro wS hSw; have s1 := hSw; go_simp; try with_reducible rfl)
              try simp only [Act.put, List.setIfInBounds_toArray, List.set_cons_zero, List.set_cons_succ]
              refine wpAnyG_take (i := 40) (v := ?v40x102) rfl (by as_aux_lemma => kernel_rfl) (fun _ _ _ h => h) (Or.inl ⟨by as_aux_lemma => kernel_rfl, ?y40x102⟩) hHeld ?r40x102
              case y40x102 => (intro wS hSw; have s1 := hSw; go_simp; try with_reducible rfl)
              try simp only [Act.put, List.setIfInBounds_toArray, List.set_cons_zero, List.set_cons_succ]
              refine wpAnyG_take (i := 41) (v := ?v41x103) rfl (by as_aux_lemma => kernel_rfl) (fun _ _ _ h => h) (Or.inl ⟨by as_aux_lemma => kernel_rfl, ?y41x103⟩) hHeld ?r41x103
              case y41x103 => (intro wS hSw; have s1 := hSw; go_simp; try with_reducible rfl)
              try simp only [Act.put, List.setIfInBounds_toArray, List.set_cons_zero, List.set_cons_succ]
              refine wpAnyG_take (i := 42) (v := ?v42x104) rfl (by as_aux_lemma => kernel_rfl) (fun _ _ _ h => h) (Or.inl ⟨by as_aux_lemma => kernel_rfl, ?y42x104⟩) hHeld ?r42x104
              case y42x104 => (intro wS hSw; have s1 := hSw; go_simp; try with_reducible rfl)
              try simp only [Act.put, List.setIfInBounds_toArray, List.set_cons_zero, List.set_cons_succ]
              refine wpAnyG_take (i := 43) (v := ?v43x105) rfl (by as_aux_lemma => kernel_rfl) (fun _ _ _ h => h) (Or.inl ⟨by as_aux_lemma => kernel_rfl, ?y43x105⟩) hHeld ?r43x105
              case y43x105 => (intro wS hSw; have s1 := hSw; go_simp; try with_reducible rfl)
              try simp only [Act.put, List.setIfInBounds_toArray, List.set_cons_zero, List.set_cons_succ]
              refine wpAnyG_take (i := 44) (v := .bool true) rfl (by as_aux_lemma => kernel_rfl) (fun _ _ _ h => h) (Or.inl ⟨by as_aux_lemma => kernel_rfl, ?y44x106⟩) hHeld ?r44x106
              case y44x106 => (intro wS hSw; (go_simp; try simp only [heq]))
              try simp only [Act.put, List.setIfInBounds_toArray, List.set_cons_zero, List.set_cons_succ]
              refine wpAnyG_take (i := 45) (v := .bool true) rfl (by as_aux_lemma => kernel_rfl) (fun _ _ _ h => h) (Or.inl ⟨by as_aux_lemma => kernel_rfl, ?y45x107⟩) hHeld ?r45x107
              case y45x107 => (intro wS hSw; (go_simp; try rfl))
              try simp only [Act.put, List.setIfInBounds_toArray, List.set_cons_zero, List.set_cons_succ]
              refine wpAnyG_take (i := 46) (v := ?v46x108) rfl (by as_aux_lemma => kernel_rfl) (fun _ _ _ h => h) (Or.inl ⟨by as_aux_lemma => kernel_rfl, ?y46x108⟩) hHeld ?r46x108
              case y46x108 => (intro wS hSw; have s1 := hSw; go_simp; try with_reducible rfl)
              try simp only [Act.put, List.setIfInBounds_toArray, List.set_cons_zero, List.set_cons_succ]
              refine wpAnyG_take (i := 47) (v := ?v47x109) rfl (by as_aux_lemma => kernel_rfl) (fun _ _ _ h => h) (Or.inl ⟨by as_aux_lemma => kernel_rfl, ?y47x109⟩) hHeld ?r47x109
              case y47x109 => (intro wS hSw; have s1 := hSw; go_simp; try with_reducible rfl)
              try simp only [Act.put, List.setIfInBounds_toArray, List.set_cons_zero, List.set_cons_succ]
              refine wpAnyG_take (i := 48) (v := .int .i64 (j : Int)) rfl (by as_aux_lemma => kernel_rfl) (fun _ _ _ h => h) (Or.inl ⟨by as_aux_lemma => kernel_rfl, ?y48x110⟩) hHeld ?r48x110
              case y48x110 => (intro wS hSw; (go_simp; try simp only [hij]; first | exact hwj | rfl))
              try simp only [Act.put, List.setIfInBounds_toArray, List.set_cons_zero, List.set_cons_succ]
              refine wpAnyG_take (i := 49) (v := ?v49x111) rfl (by as_aux_lemma => kernel_rfl) (fun _ _ _ h => h) (Or.inl ⟨by as_aux_lemma => kernel_rfl, ?y49x111⟩) hHeld ?r49x111
              case y49x111 => (intro wS hSw; have s1 := hSw; go_simp; try with_reducible rfl)
              try simp only [Act.put, List.setIfInBounds_toArray, List.set_cons_zero, List.set_cons_succ]
              refine wpAnyG_take (i := 50) (v := ?v50x112) rfl (by as_aux_lemma => kernel_rfl) (fun _ _ _ h => h) (Or.inl ⟨by as_aux_lemma => kernel_rfl, ?y50x112⟩) hHeld ?r50x112
              case y50x112 => (intro wS hSw; have s1 := hSw; go_simp; try with_reducible rfl)
              try simp only [Act.put, List.setIfInBounds_toArray, List.set_cons_zero, List.set_cons_succ]
              refine wpAnyG_take (i := 51) (v := ?v51x113) rfl (by as_aux_lemma => kernel_rfl) (fun _ _ _ h => h) (Or.inl ⟨by as_aux_lemma => kernel_rfl, ?y51x113⟩) hHeld ?r51x113
              case y51x113 => (intro wS hSw; have s1 := hSw; go_simp; try with_reducible rfl)
              try simp only [Act.put, List.setIfInBounds_toArray, List.set_cons_zero, List.set_cons_succ]
              refine wpAnyG_take (i := 52) (v := ?v52x114) rfl (by as_aux_lemma => kernel_rfl) (fun _ _ _ h => h) (Or.inl ⟨by as_aux_lemma => kernel_rfl, ?y52x114⟩) hHeld ?r52x114
              case y52x114 => (intro wS hSw; have s1 := hSw; go_simp; try with_reducible rfl)
              try simp only [Act.put, List.setIfInBounds_toArray, List.set_cons_zero, List.set_cons_succ]
              refine wpAnyG_take (i := 53) (v := ?v53x115) rfl (by as_aux_lemma => kernel_rfl) (fun _ _ _ h => h) (Or.inl ⟨by as_aux_lemma => kernel_rfl, ?y53x115⟩) hHeld ?r53x115
              case y53x115 => (intro wS hSw; have s1 := hSw; go_simp; try with_reducible rfl)
              try simp only [Act.put, List.setIfInBounds_toArray, List.set_cons_zero, List.set_cons_succ]
              refine wpAnyG_take (i := 54) (v := ?v54x116) rfl (by as_aux_lemma => kernel_rfl) (fun _ _ _ h => h) (Or.inl ⟨by as_aux_lemma => kernel_rfl, ?y54x116⟩) hHeld ?r54x116
              case y54x116 => (intro wS hSw; have s1 := hSw; go_simp; try with_reducible rfl)
              try simp only [Act.put, List.setIfInBounds_toArray, List.set_cons_zero, List.set_cons_succ]
              refine wpAnyG_take (i := 55) (v := ?v55x117) rfl (by as_aux_lemma => kernel_rfl) (fun _ _ _ h => h) (Or.inl ⟨by as_aux_lemma => kernel_rfl, ?y55x117⟩) hHeld ?r55x117
              case y55x117 => (intro wS hSw; have s1 := hSw; go_simp; try with_reducible rfl)
              try simp only [Act.put, List.setIfInBounds_toArray, List.set_cons_zero, List.set_cons_succ]
              refine wpAnyG_take (i := 56) (v := ?v56x118) rfl (by as_aux_lemma => kernel_rfl) (fun _ _ _ h => h) (Or.inl ⟨by as_aux_lemma => kernel_rfl, ?y56x118⟩) hHeld ?r56x118
              case y56x118 => (intro wS hSw; have s1 := hSw; go_simp; try with_reducible rfl)
              try simp only [Act.put, List.setIfInBounds_toArray, List.set_cons_zero, List.set_cons_succ]
              refine wpAnyG_take (i := 57) (v := .bool false) rfl (by as_aux_lemma => kernel_rfl) (fun _ _ _ h => h) (Or.inl ⟨by as_aux_lemma => kernel_rfl, ?y57x119⟩) hHeld ?r57x119
              case y57x119 => (intro wS hSw; (go_simp; try simp only [hge]))
              try simp only [Act.put, List.setIfInBounds_toArray, List.set_cons_zero, List.set_cons_succ]
              refine wpAnyG_take (i := 58) (v := .bool false) rfl (by as_aux_lemma => kernel_rfl) (fun _ _ _ h => h) (Or.inl ⟨by as_aux_lemma => kernel_rfl, ?y58x120⟩) hHeld ?r58x120
              case y58x120 => (intro wS hSw; (go_simp; try rfl))
              try simp only [Act.put, List.setIfInBounds_toArray, List.set_cons_zero, List.set_cons_succ]
              refine wpAnyG_take (i := 59) (v := .bool false) rfl (by as_aux_lemma => kernel_rfl) (fun _ _ _ h => h) (Or.inl ⟨by as_aux_lemma => kernel_rfl, ?y59x121⟩) hHeld ?r59x121
              case y59x121 => (intro wS hSw; (go_simp; try rfl))
              try simp only [Act.put, List.setIfInBounds_toArray, List.set_cons_zero, List.set_cons_succ]
              refine wpAnyG_take (i := 60) (v := .bool false) rfl (by as_aux_lemma => kernel_rfl) (fun _ _ _ h => h) (Or.inl ⟨by as_aux_lemma => kernel_rfl, ?y60x122⟩) hHeld ?r60x122
              case y60x122 => (intro wS hSw; (go_simp; try rfl))
              try simp only [Act.put, List.setIfInBounds_toArray, List.set_cons_zero, List.set_cons_succ]
              refine wpAnyG_last (i := 61) rfl (by as_aux_lemma => kernel_rfl) (by as_aux_lemma => kernel_rfl) (fun K hK => ?_)
              go_simp
              refine hK.out _ _ ?_
              clear hK K
              try simp only [Act.put, List.setIfInBounds_toArray, List.set_cons_zero, List.set_cons_succ]
              refine wpAnyG_done (by as_aux_lemma => kernel_rfl) ?_ _
              have HMe : Hid (Ms [(w2.heap.size, [.int .i64 0, .int .i64 0], 24), (w1.heap.size, [.int .i64 0, .int .i64 0], 24), (w.heap.size, f.l, 32)] w (v2.drewN kk)) := N3
              have HPe : Hid (Pl (some ⟨b, 0, none⟩) l (v2.drewN kk)) := O3
              clear hHeld N0 N1 N2 N3 O0 O1 O2 O3 HMr HPr hij hi1 hwj
              go_wp2
              go_roundg (l.length - (i + 1))
              case rel => exact ⟨i + 1, by go_num, by omega, rfl, HMe.out, HPe.out⟩
              case measure => have := HGk.out; omega
        · obtain rfl : i = l.length := by omega
          have HMr : Hid (Ms [(w2.heap.size, [.int .i64 0, .int .i64 0], 24), (w1.heap.size, [.int .i64 0, .int .i64 0], 24), (w.heap.size, f.l, 32)] w wr) := HR.out.2.1
          have HRo : Hid (∀ w, Calls Try.prog 18 #[f.v] w fun e w' => ∃ (g : Qf) (m : Mt), e = .returned g.v ∧ Rd f g m ∧ Below w.heap.size w w') := fun w => by
            refine (ReducedOf_any f w HCD.out).mono ?_
            rintro e w' ⟨⟨g, m, h1, h2⟩, k⟩
            exact ⟨g, m, h1, h2, k⟩
          unfold Qf.v at HRo
          have q0 := (HMr.out.1 _ (.tail _ (.tail _ (.head _)))).cell 0
          have q1 := (HMr.out.1 _ (.tail _ (.tail _ (.head _)))).cell 1
          have q2 := (HMr.out.1 _ (.tail _ (.tail _ (.head _)))).cell 2
          simp at q0 q1 q2
          clear HR hi hin
          go_wp2_with fail
          refine (HRo.out _).mono ?_
          rintro e w5 ⟨g, m, rfl, hrd, k5⟩
          have hga := (hrd.upto HCD.out)
          have hgd : g.disc < 0 := by rw [hrd.disc]; exact HFU.out.2.2
          have HPm : Hid (∀ w, Calls Try.prog 28 #[g.v, .int .i64 n] w fun e w' => e = .returned (.int .i64 (l.length : Int)) ∧ Below w.heap.size w w') := fun w => by
            refine (PointsMany_any g n w hga.1 hga.2.1 hrd.red hgd hnb).mono ?_
            rintro e w' ⟨⟨k, rfl, hk⟩, k6⟩
            rw [← pts_count hrd hga.2.1 hgd hnb HPt.out hk]
            exact ⟨rfl, k6⟩
          unfold Qf.v at HPm
          have HM5 : Hid (Ms [(w2.heap.size, [.int .i64 0, .int .i64 0], 24), (w1.heap.size, [.int .i64 0, .int .i64 0], 24), (w.heap.size, f.l, 32)] w w5) := HMr.out.below k5
          clear k5 q0 q1 q2 HMr hrd hga hgd HRo
          go_wp2_with fail
          refine (HPm.out _).mono ?_
          rintro e w6 ⟨rfl, k6⟩
          have HK6 : Hid (Below w.heap.size w w6) := (HM5.out.below k6).2
          clear k6 HM5
          go_wp2_with fail
          go_ret
          exact ⟨rfl, HK6.out⟩
  · obtain ⟨rfl, rfl⟩ : c1 = c0 ∧ d1 = d0 := by have := HPF.out; unfold pfault at this; rw [HCD.out, if_pos (by intro h; exact hc (congrArg Prod.fst h))] at this; simp at this; omega
    obtain rfl : l = [] := HPO.out.bad (by rw [HPF.out]; intro h; exact hc (congrArg Prod.fst h))
    have hcb : (c1 != 0) = true := by simpa using hc
    have hce : (c1 == 0) = false := by simpa using hc
    go_wp2_with fail
    rw [← hW2]
    clear hW2 v0 v1 v2 v3 v4
    refine (HG.out.begun _ (HG.out.keep _ _ HBG.out HM2.out.2)).mono ?_
    rintro e w4 ⟨rfl, k4⟩
    have HM4 := HM2.out.below k4
    have p0 := (HM4.1 _ (.head _)).cell 0
    have p1 := (HM4.1 _ (.head _)).cell 1
    have p2 := (HM4.1 _ (.tail _ (.head _))).cell 0
    have p3 := (HM4.1 _ (.tail _ (.head _))).cell 1
    simp at p0 p1 p2 p3
    have HK4 : Hid (Below w.heap.size w w4) := HM4.2
    clear HM4 k4 HM2
    go_wp2_with fail
    go_ret
    exact ⟨rfl, HK4.out⟩

end Go.Proofs.Ytijkanilpblogae
