/- FormGenera, the law's own walk: out of what is asked of the example, of Genus and of Compose. -/
import Derived.Test.YtijkanilpblogaeIntsVd
import Derived.Test.YtijkanilpblogaeQfVd
import Derived.Deep.CutBlock
set_option linter.unusedSimpArgs false
set_option linter.unusedVariables false
set_option maxRecDepth 100000
namespace Go.Proofs.Ytijkanilpblogae
open Go.RowKit

set_option maxRecDepth 100000 in
set_option maxHeartbeats 8000000 in
theorem fge_b (Bg : World → Prop) (G : GeneraIs Bg) (f : Qf) (w : World) (hbg : Bg w) (hX : ¬ -400 ≤ f.disc) :
    Calls Try.prog 6 #[f.v] w fun e w' => e = .returned (.bool true) ∧ Below w.heap.size w w' := by
  have HG : Hid (GeneraIs Bg) := G
  have HBG : Hid (Bg w) := hbg
  have HX4 : Hid (¬ -400 ≤ f.disc) := hX
  clear G hbg hX
  obtain ⟨c0, d0, hcd⟩ : ∃ c d, ffault f = (c, d) := ⟨_, _, rfl⟩
  have HCD : Hid (ffault f = (c0, d0)) := hcd
  have HFl : Hid (∀ w, Calls Try.prog 14 #[f.v] w fun e w' => e = .returned (ffv (c0, d0)) ∧ Below w.heap.size w w') := fun w => by have h := refFormFault_any f w; rw [hcd] at h; exact h
  clear hcd
  obtain ⟨c1, d1, hpf⟩ : ∃ c d, gfault f = (c, d) := ⟨_, _, rfl⟩
  have HPF : Hid (gfault f = (c1, d1)) := hpf
  have HGe : Hid (∀ w, Calls Try.prog 21 #[f.v] w fun e w' => ∃ (a : Option Addr) (c : Nat) (l : List Int), e = .returned (.tuple #[.slice a l.length c, ffv (c1, d1)]) ∧ GeOut f l ∧ IS w' (.slice a l.length c) l ∧ Fr w.heap.size a l ∧ Below w.heap.size w w') := fun w => by rw [← hpf]; exact HG.out.genus f w
  clear hpf
  unfold Qf.v at HGe HFl ⊢
  go_enter Try.func6, Try.ntmps6
  go_wp2_with fail
  have HM0 : Hid (Ms [(w.heap.size, f.l, 32)] w (w.alloc (.cells #[.int .i64 f.a, .int .i64 f.b, .int .i64 f.c] 32))) := Ms.new (l := []) ⟨fun x hx => (by cases hx), Below.refl _ _⟩ f.l 32
  refine (HGe.out _).mono ?_
  rintro e w1 ⟨a, c, l, rfl, hgo, his, hfr, k1⟩
  have HLow : Hid (∀ b o : Nat, l ≠ [] → a = some ⟨b, o, none⟩ → b < w1.heap.size) := is_low his
  have HW1 : Hid (w.heap.size < w1.heap.size) := (HM0.out.below k1).lt _ (.head _)
  have HGO : Hid (GeOut f l) := hgo
  have HM1 : Hid (Ms [(w1.heap.size, [.int .i64 c1, .int .i64 d1], 24), (w.heap.size, f.l, 32)] w (w1.alloc (.cells #[.int .i64 c1, .int .i64 d1] 24))) := (HM0.out.below k1).new [.int .i64 c1, .int .i64 d1] 24
  have HIS1 : Hid (IS (w1.alloc (.cells #[.int .i64 c1, .int .i64 d1] 24)) (.slice a l.length c) l) := is_below his (al1 _ _)
  have q0 := (HM1.out.1 _ (.tail _ (.head _))).cell 0
  have q1 := (HM1.out.1 _ (.tail _ (.head _))).cell 1
  have q2 := (HM1.out.1 _ (.tail _ (.head _))).cell 2
  simp at q0 q1 q2
  clear hgo his hfr k1 HM0 HGe
  go_wp2_with fail
  refine (HFl.out _).mono ?_
  rintro e w2 ⟨rfl, k2⟩
  have HLTa := (HM1.out.below k2).lt
  have HSZa := (HM1.out.below k2).2.size
  have HM2 : Hid (Ms [(w2.heap.size, [.int .i64 c0, .int .i64 d0], 24), (w1.heap.size, [.int .i64 c1, .int .i64 d1], 24), (w.heap.size, f.l, 32)] w (w2.alloc (.cells #[.int .i64 c0, .int .i64 d0] 24))) := (HM1.out.below k2).new [.int .i64 c0, .int .i64 d0] 24
  have HIS2 : Hid (IS (w2.alloc (.cells #[.int .i64 c0, .int .i64 d0] 24)) (.slice a l.length c) l) := is_below (is_below HIS1.out k2) (al1 _ _)
  clear k2 q0 q1 q2 HM1 HIS1
  obtain ⟨W2, hW2⟩ : ∃ W, W = w2.alloc (.cells #[.int .i64 c0, .int .i64 d0] 24) := ⟨_, rfl⟩
  rw [← hW2] at HM2 HIS2
  have v0 : W2.cell? ⟨w2.heap.size, 0, none⟩ = some (.int .i64 c0) := (HM2.out.1 _ (.head _)).cell 0
  have HLT0 : Hid (∀ x ∈ [(w1.heap.size, [.int .i64 c1, .int .i64 d1], 24), (w.heap.size, f.l, 32)], x.1 < w2.heap.size) := HLTa
  have HSZ0 : Hid (w.heap.size ≤ w2.heap.size) := HSZa
  clear HLTa HSZa
  rcases ffault_code HCD.out with ⟨rfl, rfl⟩ | hc
  · obtain ⟨hfu, hfa, hfd, hfg⟩ := ffault_ok HCD.out
    obtain ⟨D, hD⟩ : ∃ D, f.disc = D := ⟨_, rfl⟩
    have HFU : Hid (f.upto 1000000 ∧ 1 ≤ f.a ∧ f.disc = D ∧ Int.gcd (Int.gcd f.a f.b) f.c = 1) := ⟨hfu, hfa, hD, hfg⟩
    have HDi : Hid (∀ w, Calls Try.prog 15 #[f.v] w fun e w' => e = .returned (.int .i64 D) ∧ Below w.heap.size w w') := fun w => by rw [← hD]; exact refDisc_any f w hfu
    have hD0 : D < 0 := by omega
    unfold Qf.v at HDi
    clear hfu hfa hfd hfg hD
    have q0 : W2.cell? ⟨w.heap.size, 0, none⟩ = some (.int .i64 f.a) := (HM2.out.1 _ (.tail _ (.tail _ (.head _)))).cell 0
    have q1 : W2.cell? ⟨w.heap.size, 1, none⟩ = some (.int .i64 f.b) := (HM2.out.1 _ (.tail _ (.tail _ (.head _)))).cell 1
    have q2 : W2.cell? ⟨w.heap.size, 2, none⟩ = some (.int .i64 f.c) := (HM2.out.1 _ (.tail _ (.tail _ (.head _)))).cell 2
    rw [hW2] at q0 q1 q2
    go_wp2_with fail
    rw [← hW2]
    clear hW2 q0 q1 q2 v0
    refine (HDi.out _).mono ?_
    rintro e w3 ⟨rfl, k3⟩
    have HM3 : Hid (Ms [(w2.heap.size, [.int .i64 0, .int .i64 0], 24), (w1.heap.size, [.int .i64 c1, .int .i64 d1], 24), (w.heap.size, f.l, 32)] w w3) := HM2.out.below k3
    have HIS3 : Hid (IS w3 (.slice a l.length c) l) := is_below HIS2.out k3
    clear k3 HM2 HIS2
    by_cases hlow : D < -2000
    · have hlb : decide (D < -2000) = true := decide_eq_true hlow
      obtain ⟨rfl, rfl⟩ : c1 = 2 ∧ d1 = 0 := by have := HPF.out; unfold gfault at this; rw [HCD.out, HFU.out.2.2.1] at this; simp [hlow] at this; omega
      obtain rfl : l = [] := HGO.out.bad (by rw [HPF.out]; simp)
      go_wp2_with fail
      refine (F_any 2 0 _).mono ?_
      rintro e w4 ⟨rfl, k4⟩
      have N3 := HM3.out.below k4
      have x0 := (N3.1 _ (.head _)).cell 0
      have x1 := (N3.1 _ (.head _)).cell 1
      have x2 := (N3.1 _ (.head _)).frozen 0
      have x3 := (N3.1 _ (.head _)).frozen 1
      have x4 : w2.heap.size < w4.heap.size := (N3.1 _ (.head _)).lt
      simp at x0 x1
      have HM4 : Hid (Ms [(w2.heap.size, [.int .i64 2, .int .i64 0], 24), (w1.heap.size, [.int .i64 2, .int .i64 0], 24), (w.heap.size, f.l, 32)] w ((w4.setCell ⟨w2.heap.size, 0, none⟩ (.int .i64 2)).setCell ⟨w2.heap.size, 1, none⟩ (.int .i64 0))) :=
        (N3.mono (l' := [(w1.heap.size, [.int .i64 2, .int .i64 0], 24), (w.heap.size, f.l, 32)]) (fun x hx => .tail _ hx)).set2 (N3.1 _ (.head _)) (fun x hx => by have := HLT0.out x hx; omega) HSZ0.out (.int .i64 2) (.int .i64 0)
      clear k4 N3 HM3
      go_wp2_with fail
      refine (HG.out.begun _ (HG.out.keep _ _ HBG.out HM4.out.2)).mono ?_
      rintro e w5 ⟨rfl, k5⟩
      have HM5 := HM4.out.below k5
      have p0 := (HM5.1 _ (.head _)).cell 0
      have p1 := (HM5.1 _ (.head _)).cell 1
      have p2 := (HM5.1 _ (.tail _ (.head _))).cell 0
      have p3 := (HM5.1 _ (.tail _ (.head _))).cell 1
      simp at p0 p1 p2 p3
      have HK5 : Hid (Below w.heap.size w w5) := HM5.2
      clear HM5 k5 HM4
      go_wp2_with fail
      go_ret
      exact ⟨rfl, HK5.out⟩
    · have hlb : decide (D < -2000) = false := decide_eq_false hlow
      obtain ⟨rfl, rfl⟩ : c1 = 0 ∧ d1 = 0 := by have := HPF.out; unfold gfault at this; rw [HCD.out, HFU.out.2.2.1] at this; simp [hlow] at this; omega
      go_wp2_with fail
      refine (HG.out.begun _ (HG.out.keep _ _ HBG.out HM3.out.2)).mono ?_
      rintro e w4 ⟨rfl, k4⟩
      have HM4 : Hid (Ms [(w2.heap.size, [.int .i64 0, .int .i64 0], 24), (w1.heap.size, [.int .i64 0, .int .i64 0], 24), (w.heap.size, f.l, 32)] w w4) := HM3.out.below k4
      have HIS4 : Hid (IS w4 (.slice a l.length c) l) := is_below HIS3.out k4
      have p0 := (HM4.out.1 _ (.head _)).cell 0
      have p1 := (HM4.out.1 _ (.head _)).cell 1
      have p2 := (HM4.out.1 _ (.tail _ (.head _))).cell 0
      have p3 := (HM4.out.1 _ (.tail _ (.head _))).cell 1
      have p4 := (HM4.out.1 _ (.tail _ (.tail _ (.head _)))).cell 0
      have p5 := (HM4.out.1 _ (.tail _ (.tail _ (.head _)))).cell 1
      have p6 := (HM4.out.1 _ (.tail _ (.tail _ (.head _)))).cell 2
      simp at p0 p1 p2 p3 p4 p5 p6
      clear k4 HM3 HIS3
      go_wp2_with fail
      refine (HDi.out _).mono ?_
      rintro e w5 ⟨rfl, k5⟩
      have HM5 : Hid (Ms [(w2.heap.size, [.int .i64 0, .int .i64 0], 24), (w1.heap.size, [.int .i64 0, .int .i64 0], 24), (w.heap.size, f.l, 32)] w w5) := HM4.out.below k5
      have HIS5 : Hid (IS w5 (.slice a l.length c) l) := is_below HIS4.out k5
      clear k5 HM4 HIS4 p0 p1 p2 p3 p4 p5 p6
      obtain ⟨O, hO⟩ : ∃ O, O = firstOf D := ⟨_, rfl⟩
      have HOe : Hid (O = firstOf D) := hO
      have HFi : Hid (∀ w, Calls Try.prog 19 #[.int .i64 D] w fun e w' => e = .returned O.v ∧ Below w.heap.size w w') := fun w => by rw [hO]; exact First_any D w (by omega)
      have HGo : Hid (∀ w, Calls Try.prog 21 #[O.v] w fun e w' => ∃ (a : Option Addr) (c : Nat) (l : List Int), e = .returned (.tuple #[.slice a l.length c, ffv (0, 0)]) ∧ GeOut O l ∧ IS w' (.slice a l.length c) l ∧ Fr w.heap.size a l ∧ Below w.heap.size w w') := fun w => by
        have h1 := (first_fine HPF.out).1
        rw [HFU.out.2.2.1, ← hO] at h1
        rw [← h1]
        exact HG.out.genus O w
      have HRf : Hid (∀ w, Calls Try.prog 18 #[f.v] w fun e w' => ∃ (z : Qf) (m : Mt), e = .returned z.v ∧ Rd f z m ∧ Below w.heap.size w w') := fun w => by
        refine (ReducedOf_any f w HCD.out).mono ?_
        rintro e w' ⟨⟨z, m, k1, k2⟩, k⟩
        exact ⟨z, m, k1, k2, k⟩
      have HCl : Hid (∀ w, Calls Try.prog 12 #[.int .i64 D] w fun e w' => ∃ (n : Nat) (a : Option Addr) (c : Nat), e = .returned (.slice a (classesTo D n).length c) ∧ (3 * (n : Int) * n ≤ -D ∧ -D < 3 * ((n : Int) + 1) * ((n : Int) + 1)) ∧ Lw w.heap.size (classesTo D n) a c w w') := fun w => ClassesOf_any D w (by omega)
      unfold Qf.v at HFi HGo HRf
      clear hO
      have h4 : ¬ -400 ≤ D := by have h := HX4.out; rw [HFU.out.2.2.1] at h; omega
      have t4 : decide (-400 ≤ D) = false := decide_eq_false h4
      have HMX : Hid (Ms [(w2.heap.size, [.int .i64 0, .int .i64 0], 24), (w1.heap.size, [.int .i64 0, .int .i64 0], 24), (w.heap.size, f.l, 32)] w w5) := HM5.out
      have HISX : Hid (IS w5 (.slice a l.length c) l) := HIS5.out
      clear HM5 HIS5
      go_wp2_with fail
      refine (HFi.out _).mono ?_
      rintro e w7 ⟨rfl, k7⟩
      have HM7 : Hid (Ms [(w2.heap.size, [.int .i64 0, .int .i64 0], 24), (w1.heap.size, [.int .i64 0, .int .i64 0], 24), (w.heap.size, f.l, 32)] w w7) := HMX.out.below k7
      have HIS7 : Hid (IS w7 (.slice a l.length c) l) := is_below HISX.out k7
      clear k7 HMX HISX
      go_wp2_with fail
      refine (HGo.out _).mono ?_
      rintro e w8 ⟨af, cf, lf, rfl, hgo, his, hfr, k8⟩
      have HGF : Hid (GeOut O lf) := hgo
      have hlf : lf.length ≤ 2000 := ge_len hgo
      have hll : l.length ≤ 2000 := ge_len HGO.out
      have N8 := HM7.out.below k8
      have y0 := (N8.1 _ (.tail _ (.head _))).cell 0
      have y1 := (N8.1 _ (.tail _ (.head _))).cell 1
      have y2 := (N8.1 _ (.tail _ (.head _))).frozen 0
      have y3 := (N8.1 _ (.tail _ (.head _))).frozen 1
      have y4 : w1.heap.size < w8.heap.size := (N8.1 _ (.tail _ (.head _))).lt
      simp at y0 y1
      have HM8 : Hid (Ms [(w1.heap.size, [.int .i64 0, .int .i64 0], 24), (w2.heap.size, [.int .i64 0, .int .i64 0], 24), (w.heap.size, f.l, 32)] w ((w8.setCell ⟨w1.heap.size, 0, none⟩ (.int .i64 0)).setCell ⟨w1.heap.size, 1, none⟩ (.int .i64 0))) :=
        (N8.mono (l' := [(w2.heap.size, [.int .i64 0, .int .i64 0], 24), (w.heap.size, f.l, 32)]) (fun x hx => by simp only [List.mem_cons, List.not_mem_nil, or_false] at hx ⊢; rcases hx with hx | hx; exact .inl hx; exact .inr (.inr hx))).set2 (N8.1 _ (.tail _ (.head _))) (fun x hx => by
          simp only [List.mem_cons, List.not_mem_nil, or_false] at hx
          rcases hx with rfl | rfl
          · have := HLT0.out _ (.head _)
            show w2.heap.size ≠ w1.heap.size
            simp at this
            omega
          · have := HW1.out
            show w.heap.size ≠ w1.heap.size
            omega) (Nat.le_of_lt HW1.out) (.int .i64 0) (.int .i64 0)
      have HIS8 : Hid (IS ((w8.setCell ⟨w1.heap.size, 0, none⟩ (.int .i64 0)).setCell ⟨w1.heap.size, 1, none⟩ (.int .i64 0)) (.slice a l.length c) l ∧ IS ((w8.setCell ⟨w1.heap.size, 0, none⟩ (.int .i64 0)).setCell ⟨w1.heap.size, 1, none⟩ (.int .i64 0)) (.slice af lf.length cf) lf) := by
        have n1 : ∀ b o : Nat, l ≠ [] → a = some ⟨b, o, none⟩ → b ≠ w1.heap.size := fun b o h1 h2 => by have := HLow.out b o h1 h2; omega
        have n2 : ∀ b o : Nat, lf ≠ [] → af = some ⟨b, o, none⟩ → b ≠ w1.heap.size := fun b o h1 h2 => by
          obtain ⟨b', o', h3, h4⟩ := hfr h1
          rw [h2] at h3
          simp at h3
          have h5 : w1.heap.size < w7.heap.size := HM7.out.lt _ (.tail _ (.head _))
          omega
        exact ⟨is_set (is_set (is_below HIS7.out k8) n1) n1, is_set (is_set his n2) n2⟩
      obtain ⟨W8, hW8⟩ : ∃ W, W = (w8.setCell ⟨w1.heap.size, 0, none⟩ (.int .i64 0)).setCell ⟨w1.heap.size, 1, none⟩ (.int .i64 0) := ⟨_, rfl⟩
      rw [← hW8] at HM8 HIS8
      have z0 : W8.cell? ⟨w1.heap.size, 0, none⟩ = some (.int .i64 0) := (HM8.out.1 _ (.head _)).cell 0
      have q0 : W8.cell? ⟨w.heap.size, 0, none⟩ = some (.int .i64 f.a) := (HM8.out.1 _ (.tail _ (.tail _ (.head _)))).cell 0
      have q1 : W8.cell? ⟨w.heap.size, 1, none⟩ = some (.int .i64 f.b) := (HM8.out.1 _ (.tail _ (.tail _ (.head _)))).cell 1
      have q2 : W8.cell? ⟨w.heap.size, 2, none⟩ = some (.int .i64 f.c) := (HM8.out.1 _ (.tail _ (.tail _ (.head _)))).cell 2
      rw [hW8] at z0 q0 q1 q2
      clear hgo his hfr k8 N8 HM7 HIS7 HGo HFi
      go_wp2_with fail
      rw [← hW8]
      clear hW8 z0 q0 q1 q2 y0 y1 y2 y3 y4
      refine (HRf.out _).mono ?_
      rintro e w9 ⟨r, m, rfl, hr, k9⟩
      have HRd : Hid (Rd f r m) := hr
      have HM9 : Hid (Ms ((w9.heap.size, r.l, 32) :: [(w1.heap.size, [.int .i64 0, .int .i64 0], 24), (w2.heap.size, [.int .i64 0, .int .i64 0], 24), (w.heap.size, f.l, 32)]) w (w9.alloc (.cells #[.int .i64 r.a, .int .i64 r.b, .int .i64 r.c] 32))) := (HM8.out.below k9).new r.l 32
      have HIS9 : Hid (IS (w9.alloc (.cells #[.int .i64 r.a, .int .i64 r.b, .int .i64 r.c] 32)) (.slice a l.length c) l ∧ IS (w9.alloc (.cells #[.int .i64 r.a, .int .i64 r.b, .int .i64 r.c] 32)) (.slice af lf.length cf) lf) := ⟨is_below (is_below HIS8.out.1 k9) (al1 _ _), is_below (is_below HIS8.out.2 k9) (al1 _ _)⟩
      clear hr k9 HM8 HIS8 HRf
      go_wp2_with fail
      refine (HCl.out _).mono ?_
      rintro e w10 ⟨n, a3, c3, rfl, hn, hlw⟩
      have HM10 : Hid (Ms ((w9.heap.size, r.l, 32) :: [(w1.heap.size, [.int .i64 0, .int .i64 0], 24), (w2.heap.size, [.int .i64 0, .int .i64 0], 24), (w.heap.size, f.l, 32)]) w w10 ∧ IS w10 (.slice a l.length c) l ∧ IS w10 (.slice af lf.length cf) lf ∧ Al a3 (classesTo D n) w10) := ⟨HM9.out.below hlw.k, is_below HIS9.out.1 hlw.k, is_below HIS9.out.2 hlw.k, Al.of hlw⟩
      have HQ : Hid (∀ q, q ∈ classesTo D n → ffault q = (0, 0) ∧ q.disc = D) := fun q hq => (classesTo_is hD0 hq).2
      have HDup : Hid (l = lf ↔ ∃ q, q ∈ classesTo D n ∧ MQ.Cz q q r) := by
        have h1 := dup_all HPF.out HRd.out HGO.out (lf := lf) (n := n) (by rw [HFU.out.2.2.1, ← HOe.out]; exact HGF.out) (by rw [HFU.out.2.2.1]; exact hn.2)
        rw [HFU.out.2.2.1] at h1
        exact h1
      have hn25 : n ≤ 26 := by
        rcases Nat.lt_or_ge 26 n with h | h
        · have h1 : (27 : Int) * 27 ≤ (n : Int) * n := Int.mul_le_mul (by omega) (by omega) (by omega) (by omega)
          have h2 : 3 * (n : Int) * n = 3 * ((n : Int) * n) := Int.mul_assoc ..
          have := hn.1
          omega
        · exact h
      have hLl : (classesTo D n).length ≤ 20000 := by have := classesTo_len D n (by omega); omega
      obtain ⟨L, hL⟩ : ∃ L, classesTo D n = L := ⟨_, rfl⟩
      rw [hL] at HM10 HQ HDup hLl ⊢
      clear hL hn25 hn hlw HM9 HIS9 HCl
      go_wp2
      go_loopw [9, 11] (fun sv iv wx => ∃ (i : Nat) (sb : Bool), sv = .bool sb ∧ iv = .int .i64 i ∧ i ≤ L.length ∧ Hid ((sb = true ↔ ∃ q, q ∈ L.take i ∧ MQ.Cz q q r) ∧ Below w10.heap.size w10 wx)) (fun _ iv _ => L.length - (intOf iv).toNat)
      case atStart => exact ⟨0, false, rfl, rfl, Nat.zero_le _, by simp, Below.refl _ _⟩
      case round =>
        obtain ⟨i, sb, rfl, rfl, hi, HR⟩ := hrel
        have HBe : Hid (Below w10.heap.size w10 wr) := HR.out.2
        have HSb : Hid (sb = true ↔ ∃ q, q ∈ L.take i ∧ MQ.Cz q q r) := HR.out.1
        clear HR
        by_cases hin : i < L.length
        · obtain ⟨b, hab, hb, hcell⟩ := (HM10.out.2.2.2.below HBe.out) (by intro h; rw [h] at hin; simp at hin)
          subst hab
          obtain ⟨q, hq⟩ : ∃ q, L[i]? = some q := ⟨L[i], List.getElem?_eq_getElem hin⟩
          have hqm : q ∈ L := List.mem_of_getElem? hq
          obtain ⟨qf, qd⟩ := HQ.out q hqm
          have hcc : compF q q = (0, 0) := compF_ok qf qf rfl
          have HCq : Hid (∀ w, Calls Try.prog 13 #[q.v, q.v] w fun e w' => ∃ t : Qf, e = .returned (.tuple #[t.v, ffv (0, 0)]) ∧ MQ.Cz q q t ∧ Below w.heap.size w w') := fun w => by
            refine (HG.out.compose q q w).mono ?_
            rintro e w' ⟨t, rfl, ho, k⟩
            rw [hcc]
            exact ⟨t, rfl, (ho.good hcc).1, k⟩
          have hqq := qcells_at L i q hq
          have c0 := hcell _ _ hqq.1
          have c1 := hcell _ _ hqq.2.1
          have c2 := hcell _ _ hqq.2.2
          have HS3 : Hid (∀ X, Below wr.heap.size wr X → S3c q b i X) := fun X k => ⟨(k.cell (p := ⟨b, i * 3, none⟩) hb).trans c0, (k.cell (p := ⟨b, i * 3 + 1, none⟩) hb).trans c1, (k.cell (p := ⟨b, i * 3 + 2, none⟩) hb).trans c2⟩
          have HQi : Hid (L[i]? = some q ∧ q.disc < 0) := ⟨hq, by omega⟩
          unfold Qf.v at HCq
          clear hb hcell hq hqm qf qd hcc hqq c0 c1 c2
          go_wp2_with fail
          go_cut [12, 13] from 73 to 84 (fun pv qv wx => ∃ B12 B13 : Nat, pv = .pointer (some ⟨B12, 0, none⟩) ∧ qv = .pointer (some ⟨B13, 0, none⟩) ∧ Hid (∃ t : Qf, MQ.Cz q q t ∧ Ms [(B12, t.l, 32), (B13, [.int .i64 0, .int .i64 0], 24)] wr wx))
          case first =>
            have N0 : Ms [] wr wr.drew := ⟨fun x hx => (by cases hx), (Below.refl wr.heap.size wr).drew⟩
            refine wp_region_G (S3c q b i) 15 (by kernel_rfl) (HS3.out _ N0.2) (fun hHeld => ?_)
            refine wpAnyG_take (i := 0) (v := ?v0x1) rfl (by kernel_rfl) (fun _ _ _ h => h) (Or.inl ⟨by rfl, ?y0x1⟩) hHeld ?r0x1
            case y0x1 => (intro wS hSw; obtain ⟨s1, s2, s3⟩ := hSw; go_simp; try with_reducible rfl)
            try simp only [Act.put, List.setIfInBounds_toArray, List.set_cons_zero, List.set_cons_succ]
            refine wpAnyG_take (i := 1) (v := ?v1x2) rfl (by kernel_rfl) (fun _ _ _ h => h) (Or.inl ⟨by rfl, ?y1x2⟩) hHeld ?r1x2
            case y1x2 => (intro wS hSw; obtain ⟨s1, s2, s3⟩ := hSw; go_simp; try with_reducible rfl)
            try simp only [Act.put, List.setIfInBounds_toArray, List.set_cons_zero, List.set_cons_succ]
            refine wpAnyG_take (i := 2) (v := ?v2x3) rfl (by kernel_rfl) (fun _ _ _ h => h) (Or.inl ⟨by rfl, ?y2x3⟩) hHeld ?r2x3
            case y2x3 => (intro wS hSw; obtain ⟨s1, s2, s3⟩ := hSw; go_simp; try with_reducible rfl)
            try simp only [Act.put, List.setIfInBounds_toArray, List.set_cons_zero, List.set_cons_succ]
            refine wpAnyG_take (i := 3) (v := ?v3x4) rfl (by kernel_rfl) (fun _ _ _ h => h) (Or.inl ⟨by rfl, ?y3x4⟩) hHeld ?r3x4
            case y3x4 => (intro wS hSw; obtain ⟨s1, s2, s3⟩ := hSw; go_simp; try with_reducible rfl)
            try simp only [Act.put, List.setIfInBounds_toArray, List.set_cons_zero, List.set_cons_succ]
            refine wpAnyG_take (i := 4) (v := ?v4x5) rfl (by kernel_rfl) (fun _ _ _ h => h) (Or.inl ⟨by rfl, ?y4x5⟩) hHeld ?r4x5
            case y4x5 => (intro wS hSw; obtain ⟨s1, s2, s3⟩ := hSw; go_simp; try with_reducible rfl)
            try simp only [Act.put, List.setIfInBounds_toArray, List.set_cons_zero, List.set_cons_succ]
            refine wpAnyG_take (i := 5) (v := ?v5x6) rfl (by kernel_rfl) (fun _ _ _ h => h) (Or.inl ⟨by rfl, ?y5x6⟩) hHeld ?r5x6
            case y5x6 => (intro wS hSw; obtain ⟨s1, s2, s3⟩ := hSw; go_simp; try with_reducible rfl)
            try simp only [Act.put, List.setIfInBounds_toArray, List.set_cons_zero, List.set_cons_succ]
            refine wpAnyG_take (i := 6) (v := ?v6x7) rfl (by kernel_rfl) (fun _ _ _ h => h) (Or.inl ⟨by rfl, ?y6x7⟩) hHeld ?r6x7
            case y6x7 => (intro wS hSw; obtain ⟨s1, s2, s3⟩ := hSw; go_simp; try with_reducible rfl)
            try simp only [Act.put, List.setIfInBounds_toArray, List.set_cons_zero, List.set_cons_succ]
            refine wpAnyG_take (i := 7) (v := ?v7x8) rfl (by kernel_rfl) (fun _ _ _ h => h) (Or.inl ⟨by rfl, ?y7x8⟩) hHeld ?r7x8
            case y7x8 => (intro wS hSw; obtain ⟨s1, s2, s3⟩ := hSw; go_simp; try with_reducible rfl)
            try simp only [Act.put, List.setIfInBounds_toArray, List.set_cons_zero, List.set_cons_succ]
            refine wpAnyG_three (i := 8) (j := 12) (k := 13) rfl rfl rfl (by kernel_rfl) (fun K hK => ?_) (fun K hK => ?_) (fun K hK => ?_)
            · go_simp
              refine (HCq.out _).mono ?_
              rintro e v1 ⟨t, rfl, ht, kv1⟩
              have N1 := N0.below kv1
              refine hK.out _ _ (HS3.out _ N1.2) ?_
              clear hK K
              try simp only [Act.put, List.setIfInBounds_toArray, List.set_cons_zero, List.set_cons_succ]
              clear hHeld
              have hHeld : S3c q b i v1 := (HS3.out _ N1.2)
              refine wpAnyG_take (i := 9) (v := ?v9x9) rfl (by kernel_rfl) (fun _ _ _ h => h) (Or.inl ⟨by rfl, ?y9x9⟩) hHeld ?r9x9
              case y9x9 => (intro wS hSw; obtain ⟨s1, s2, s3⟩ := hSw; go_simp; try with_reducible rfl)
              try simp only [Act.put, List.setIfInBounds_toArray, List.set_cons_zero, List.set_cons_succ]
              refine wpAnyG_take (i := 10) (v := ?v10x10) rfl (by kernel_rfl) (fun _ _ _ h => h) (Or.inl ⟨by rfl, ?y10x10⟩) hHeld ?r10x10
              case y10x10 => (intro wS hSw; obtain ⟨s1, s2, s3⟩ := hSw; go_simp; try with_reducible rfl)
              try simp only [Act.put, List.setIfInBounds_toArray, List.set_cons_zero, List.set_cons_succ]
              refine wpAnyG_take (i := 11) (v := ?v11x11) rfl (by kernel_rfl) (fun _ _ _ h => h) (Or.inl ⟨by rfl, ?y11x11⟩) hHeld ?r11x11
              case y11x11 => (intro wS hSw; obtain ⟨s1, s2, s3⟩ := hSw; go_simp; try with_reducible rfl)
              try simp only [Act.put, List.setIfInBounds_toArray, List.set_cons_zero, List.set_cons_succ]
              refine wpAnyG_two (i := 12) (j := 13) rfl rfl (by kernel_rfl) (fun K hK => ?_) (fun K hK => ?_)
              · go_simp
                obtain ⟨p2, hp2⟩ : ∃ p, p = v1.heap.size := ⟨_, rfl⟩
                have L2 := N1.lt
                have S2 := N1.2.size
                have N2 := N1.new [.int .i64 0, .int .i64 0, .int .i64 0] 32
                rw [← hp2] at L2 S2 N2
                refine hK.out _ _ (HS3.out _ N2.2) ?_
                clear hK K
                try simp only [Act.put, List.setIfInBounds_toArray, List.set_cons_zero, List.set_cons_succ]
                generalize hv2 : World.alloc _ _ = v2
                rw [← hp2]
                rw [show v1.alloc (.cells #[.int .i64 0, .int .i64 0, .int .i64 0] 32) = v2 from hv2] at N2
                clear hv2 hp2
                refine wpAnyG_one (i := 13) rfl (by kernel_rfl) (fun K hK => ?_)
                go_simp
                obtain ⟨p3, hp3⟩ : ∃ p, p = v2.heap.size := ⟨_, rfl⟩
                have L3 := N2.lt
                have S3 := N2.2.size
                have N3 := N2.new [.int .i64 0, .int .i64 0] 24
                rw [← hp3] at L3 S3 N3
                refine hK.out _ _ (HS3.out _ N3.2) ?_
                clear hK K
                try simp only [Act.put, List.setIfInBounds_toArray, List.set_cons_zero, List.set_cons_succ]
                generalize hv3 : World.alloc _ _ = v3
                rw [← hp3]
                rw [show v2.alloc (.cells #[.int .i64 0, .int .i64 0] 24) = v3 from hv3] at N3
                clear hv3 hp3
                have E4 : Cl p2 [.int .i64 0, .int .i64 0, .int .i64 0] 32 v3 := N3.1 _ (.tail _ (.head _))
                have ne4 : ∀ x ∈ ([(p3, [.int .i64 0, .int .i64 0], 24)] : List (Nat × List Value × TypeId)), x.1 ≠ p2 := by
                  intro x hx
                  simp only [List.mem_cons, List.not_mem_nil, or_false] at hx
                  subst hx
                  have := L3 _ (.head _); omega
                have T4 := (N3.mono (l' := [(p3, [.int .i64 0, .int .i64 0], 24)]) (fun x hx => by simp only [List.mem_cons, List.not_mem_nil, or_false] at hx ⊢; exact .inl hx)).set3 E4 ne4 S2 (.int .i64 t.a) (.int .i64 t.b) (.int .i64 t.c)
                have c40 := E4.cell 0
                have f40 := E4.frozen 0
                have c41 := E4.cell 1
                have f41 := E4.frozen 1
                have c42 := E4.cell 2
                have f42 := E4.frozen 2
                have l4 := E4.lt
                simp at c40 c41 c42
                refine wpAnyG_one (i := 14) rfl (by kernel_rfl) (fun K hK => ?_)
                go_simp
                refine hK.out _ _ (HS3.out _ T4.2) ?_
                clear hK K
                try simp only [Act.put, List.setIfInBounds_toArray, List.set_cons_zero, List.set_cons_succ]
                generalize hx4 : World.setCell _ _ _ = x4
                rw [hx4] at T4
                clear hx4 c40 f40 c41 f41 c42 f42 l4
                have U4 : Cl p3 [.int .i64 0, .int .i64 0] 24 x4 := T4.1 _ (.tail _ (.head _))
                have c40 := U4.cell 0
                have f40 := U4.frozen 0
                have c41 := U4.cell 1
                have f41 := U4.frozen 1
                have l4 := U4.lt
                simp at c40 c41
                have me4 : ∀ x ∈ ([(p2, t.l, 32)] : List (Nat × List Value × TypeId)), x.1 ≠ p3 := by
                  intro x hx
                  simp only [List.mem_cons, List.not_mem_nil, or_false] at hx
                  subst hx
                  have := L3 _ (.head _); omega
                have V4 := (T4.mono (l' := [(p2, t.l, 32)]) (fun x hx => by simp only [List.mem_cons, List.not_mem_nil, or_false] at hx ⊢; exact .inl hx)).set2 U4 me4 S3 (.int .i64 0) (.int .i64 0)
                refine wpAnyG_last (i := 15) rfl (by kernel_rfl) (by kernel_rfl) (fun K hK => ?_)
                go_simp
                refine hK.out _ _ ?_
                clear hK K
                try simp only [Act.put, List.setIfInBounds_toArray, List.set_cons_zero, List.set_cons_succ]
                refine wpAnyG_done (by kernel_rfl) ?_ _
                generalize hx4 : World.setCell _ _ _ = y4
                rw [hx4] at V4
                clear hx4
                go_wp2
                go_meet
                exact ⟨_, _, rfl, rfl, t, ht, V4.mono (fun x hx => by simp only [List.mem_cons, List.not_mem_nil, or_false] at hx ⊢; exact hx.symm)⟩
              · go_simp
                obtain ⟨p5, hp5⟩ : ∃ p, p = v1.heap.size := ⟨_, rfl⟩
                have L5 := N1.lt
                have S5 := N1.2.size
                have N5 := N1.new [.int .i64 0, .int .i64 0] 24
                rw [← hp5] at L5 S5 N5
                refine hK.out _ _ (HS3.out _ N5.2) ?_
                clear hK K
                try simp only [Act.put, List.setIfInBounds_toArray, List.set_cons_zero, List.set_cons_succ]
                generalize hv5 : World.alloc _ _ = v5
                rw [← hp5]
                rw [show v1.alloc (.cells #[.int .i64 0, .int .i64 0] 24) = v5 from hv5] at N5
                clear hv5 hp5
                refine wpAnyG_one (i := 12) rfl (by kernel_rfl) (fun K hK => ?_)
                go_simp
                obtain ⟨p6, hp6⟩ : ∃ p, p = v5.heap.size := ⟨_, rfl⟩
                have L6 := N5.lt
                have S6 := N5.2.size
                have N6 := N5.new [.int .i64 0, .int .i64 0, .int .i64 0] 32
                rw [← hp6] at L6 S6 N6
                refine hK.out _ _ (HS3.out _ N6.2) ?_
                clear hK K
                try simp only [Act.put, List.setIfInBounds_toArray, List.set_cons_zero, List.set_cons_succ]
                generalize hv6 : World.alloc _ _ = v6
                rw [← hp6]
                rw [show v5.alloc (.cells #[.int .i64 0, .int .i64 0, .int .i64 0] 32) = v6 from hv6] at N6
                clear hv6 hp6
                have E7 : Cl p6 [.int .i64 0, .int .i64 0, .int .i64 0] 32 v6 := N6.1 _ (.head _)
                have ne7 : ∀ x ∈ ([(p5, [.int .i64 0, .int .i64 0], 24)] : List (Nat × List Value × TypeId)), x.1 ≠ p6 := by
                  intro x hx
                  simp only [List.mem_cons, List.not_mem_nil, or_false] at hx
                  subst hx
                  have := L6 _ (.head _); omega
                have T7 := (N6.mono (l' := [(p5, [.int .i64 0, .int .i64 0], 24)]) (fun x hx => by simp only [List.mem_cons, List.not_mem_nil, or_false] at hx ⊢; exact .inr hx)).set3 E7 ne7 S6 (.int .i64 t.a) (.int .i64 t.b) (.int .i64 t.c)
                have c70 := E7.cell 0
                have f70 := E7.frozen 0
                have c71 := E7.cell 1
                have f71 := E7.frozen 1
                have c72 := E7.cell 2
                have f72 := E7.frozen 2
                have l7 := E7.lt
                simp at c70 c71 c72
                refine wpAnyG_one (i := 14) rfl (by kernel_rfl) (fun K hK => ?_)
                go_simp
                refine hK.out _ _ (HS3.out _ T7.2) ?_
                clear hK K
                try simp only [Act.put, List.setIfInBounds_toArray, List.set_cons_zero, List.set_cons_succ]
                generalize hx7 : World.setCell _ _ _ = x7
                rw [hx7] at T7
                clear hx7 c70 f70 c71 f71 c72 f72 l7
                have U7 : Cl p5 [.int .i64 0, .int .i64 0] 24 x7 := T7.1 _ (.tail _ (.head _))
                have c70 := U7.cell 0
                have f70 := U7.frozen 0
                have c71 := U7.cell 1
                have f71 := U7.frozen 1
                have l7 := U7.lt
                simp at c70 c71
                have me7 : ∀ x ∈ ([(p6, t.l, 32)] : List (Nat × List Value × TypeId)), x.1 ≠ p5 := by
                  intro x hx
                  simp only [List.mem_cons, List.not_mem_nil, or_false] at hx
                  subst hx
                  have := L6 _ (.head _); omega
                have V7 := (T7.mono (l' := [(p6, t.l, 32)]) (fun x hx => by simp only [List.mem_cons, List.not_mem_nil, or_false] at hx ⊢; exact .inl hx)).set2 U7 me7 S5 (.int .i64 0) (.int .i64 0)
                refine wpAnyG_last (i := 15) rfl (by kernel_rfl) (by kernel_rfl) (fun K hK => ?_)
                go_simp
                refine hK.out _ _ ?_
                clear hK K
                try simp only [Act.put, List.setIfInBounds_toArray, List.set_cons_zero, List.set_cons_succ]
                refine wpAnyG_done (by kernel_rfl) ?_ _
                generalize hx7 : World.setCell _ _ _ = y7
                rw [hx7] at V7
                clear hx7
                go_wp2
                go_meet
                exact ⟨_, _, rfl, rfl, t, ht, V7.mono (fun x hx => by simp only [List.mem_cons, List.not_mem_nil, or_false] at hx ⊢; exact hx.symm)⟩
            · go_simp
              obtain ⟨p8, hp8⟩ : ∃ p, p = wr.drew.heap.size := ⟨_, rfl⟩
              have L8 := N0.lt
              have S8 := N0.2.size
              have N8 := N0.new [.int .i64 0, .int .i64 0, .int .i64 0] 32
              rw [← hp8] at L8 S8 N8
              refine hK.out _ _ (HS3.out _ N8.2) ?_
              clear hK K
              try simp only [Act.put, List.setIfInBounds_toArray, List.set_cons_zero, List.set_cons_succ]
              generalize hv8 : World.drew (World.alloc _ _) = v8
              try rw [show wr.heap.size = p8 from hp8.symm]
              rw [show wr.drew.alloc (.cells #[.int .i64 0, .int .i64 0, .int .i64 0] 32) = v8 from hv8] at N8
              clear hv8 hp8
              refine wpAnyG_two (i := 8) (j := 13) rfl rfl (by kernel_rfl) (fun K hK => ?_) (fun K hK => ?_)
              · go_simp
                refine (HCq.out _).mono ?_
                rintro e v9 ⟨t, rfl, ht, kv9⟩
                have N9 := N8.below kv9
                refine hK.out _ _ (HS3.out _ N9.2) ?_
                clear hK K
                try simp only [Act.put, List.setIfInBounds_toArray, List.set_cons_zero, List.set_cons_succ]
                clear hHeld
                have hHeld : S3c q b i v9 := (HS3.out _ N9.2)
                refine wpAnyG_take (i := 9) (v := ?v9x12) rfl (by kernel_rfl) (fun _ _ _ h => h) (Or.inl ⟨by rfl, ?y9x12⟩) hHeld ?r9x12
                case y9x12 => (intro wS hSw; obtain ⟨s1, s2, s3⟩ := hSw; go_simp; try with_reducible rfl)
                try simp only [Act.put, List.setIfInBounds_toArray, List.set_cons_zero, List.set_cons_succ]
                refine wpAnyG_take (i := 10) (v := ?v10x13) rfl (by kernel_rfl) (fun _ _ _ h => h) (Or.inl ⟨by rfl, ?y10x13⟩) hHeld ?r10x13
                case y10x13 => (intro wS hSw; obtain ⟨s1, s2, s3⟩ := hSw; go_simp; try with_reducible rfl)
                try simp only [Act.put, List.setIfInBounds_toArray, List.set_cons_zero, List.set_cons_succ]
                refine wpAnyG_take (i := 11) (v := ?v11x14) rfl (by kernel_rfl) (fun _ _ _ h => h) (Or.inl ⟨by rfl, ?y11x14⟩) hHeld ?r11x14
                case y11x14 => (intro wS hSw; obtain ⟨s1, s2, s3⟩ := hSw; go_simp; try with_reducible rfl)
                try simp only [Act.put, List.setIfInBounds_toArray, List.set_cons_zero, List.set_cons_succ]
                refine wpAnyG_one (i := 13) rfl (by kernel_rfl) (fun K hK => ?_)
                go_simp
                obtain ⟨p10, hp10⟩ : ∃ p, p = v9.heap.size := ⟨_, rfl⟩
                have L10 := N9.lt
                have S10 := N9.2.size
                have N10 := N9.new [.int .i64 0, .int .i64 0] 24
                rw [← hp10] at L10 S10 N10
                refine hK.out _ _ (HS3.out _ N10.2) ?_
                clear hK K
                try simp only [Act.put, List.setIfInBounds_toArray, List.set_cons_zero, List.set_cons_succ]
                generalize hv10 : World.alloc _ _ = v10
                rw [← hp10]
                rw [show v9.alloc (.cells #[.int .i64 0, .int .i64 0] 24) = v10 from hv10] at N10
                clear hv10 hp10
                have E11 : Cl p8 [.int .i64 0, .int .i64 0, .int .i64 0] 32 v10 := N10.1 _ (.tail _ (.head _))
                have ne11 : ∀ x ∈ ([(p10, [.int .i64 0, .int .i64 0], 24)] : List (Nat × List Value × TypeId)), x.1 ≠ p8 := by
                  intro x hx
                  simp only [List.mem_cons, List.not_mem_nil, or_false] at hx
                  subst hx
                  have := L10 _ (.head _); omega
                have T11 := (N10.mono (l' := [(p10, [.int .i64 0, .int .i64 0], 24)]) (fun x hx => by simp only [List.mem_cons, List.not_mem_nil, or_false] at hx ⊢; exact .inl hx)).set3 E11 ne11 S8 (.int .i64 t.a) (.int .i64 t.b) (.int .i64 t.c)
                have c110 := E11.cell 0
                have f110 := E11.frozen 0
                have c111 := E11.cell 1
                have f111 := E11.frozen 1
                have c112 := E11.cell 2
                have f112 := E11.frozen 2
                have l11 := E11.lt
                simp at c110 c111 c112
                refine wpAnyG_one (i := 14) rfl (by kernel_rfl) (fun K hK => ?_)
                go_simp
                refine hK.out _ _ (HS3.out _ T11.2) ?_
                clear hK K
                try simp only [Act.put, List.setIfInBounds_toArray, List.set_cons_zero, List.set_cons_succ]
                generalize hx11 : World.setCell _ _ _ = x11
                rw [hx11] at T11
                clear hx11 c110 f110 c111 f111 c112 f112 l11
                have U11 : Cl p10 [.int .i64 0, .int .i64 0] 24 x11 := T11.1 _ (.tail _ (.head _))
                have c110 := U11.cell 0
                have f110 := U11.frozen 0
                have c111 := U11.cell 1
                have f111 := U11.frozen 1
                have l11 := U11.lt
                simp at c110 c111
                have me11 : ∀ x ∈ ([(p8, t.l, 32)] : List (Nat × List Value × TypeId)), x.1 ≠ p10 := by
                  intro x hx
                  simp only [List.mem_cons, List.not_mem_nil, or_false] at hx
                  subst hx
                  have := L10 _ (.head _); omega
                have V11 := (T11.mono (l' := [(p8, t.l, 32)]) (fun x hx => by simp only [List.mem_cons, List.not_mem_nil, or_false] at hx ⊢; exact .inl hx)).set2 U11 me11 S10 (.int .i64 0) (.int .i64 0)
                refine wpAnyG_last (i := 15) rfl (by kernel_rfl) (by kernel_rfl) (fun K hK => ?_)
                go_simp
                refine hK.out _ _ ?_
                clear hK K
                try simp only [Act.put, List.setIfInBounds_toArray, List.set_cons_zero, List.set_cons_succ]
                refine wpAnyG_done (by kernel_rfl) ?_ _
                generalize hx11 : World.setCell _ _ _ = y11
                rw [hx11] at V11
                clear hx11
                go_wp2
                go_meet
                exact ⟨_, _, rfl, rfl, t, ht, V11.mono (fun x hx => by simp only [List.mem_cons, List.not_mem_nil, or_false] at hx ⊢; exact hx.symm)⟩
              · go_simp
                obtain ⟨p12, hp12⟩ : ∃ p, p = v8.heap.size := ⟨_, rfl⟩
                have L12 := N8.lt
                have S12 := N8.2.size
                have N12 := N8.new [.int .i64 0, .int .i64 0] 24
                rw [← hp12] at L12 S12 N12
                refine hK.out _ _ (HS3.out _ N12.2) ?_
                clear hK K
                try simp only [Act.put, List.setIfInBounds_toArray, List.set_cons_zero, List.set_cons_succ]
                generalize hv12 : World.alloc _ _ = v12
                rw [← hp12]
                rw [show v8.alloc (.cells #[.int .i64 0, .int .i64 0] 24) = v12 from hv12] at N12
                clear hv12 hp12
                refine wpAnyG_one (i := 8) rfl (by kernel_rfl) (fun K hK => ?_)
                go_simp
                refine (HCq.out _).mono ?_
                rintro e v13 ⟨t, rfl, ht, kv13⟩
                have N13 := N12.below kv13
                refine hK.out _ _ (HS3.out _ N13.2) ?_
                clear hK K
                try simp only [Act.put, List.setIfInBounds_toArray, List.set_cons_zero, List.set_cons_succ]
                clear hHeld
                have hHeld : S3c q b i v13 := (HS3.out _ N13.2)
                refine wpAnyG_take (i := 9) (v := ?v9x15) rfl (by kernel_rfl) (fun _ _ _ h => h) (Or.inl ⟨by rfl, ?y9x15⟩) hHeld ?r9x15
                case y9x15 => (intro wS hSw; obtain ⟨s1, s2, s3⟩ := hSw; go_simp; try with_reducible rfl)
                try simp only [Act.put, List.setIfInBounds_toArray, List.set_cons_zero, List.set_cons_succ]
                refine wpAnyG_take (i := 10) (v := ?v10x16) rfl (by kernel_rfl) (fun _ _ _ h => h) (Or.inl ⟨by rfl, ?y10x16⟩) hHeld ?r10x16
                case y10x16 => (intro wS hSw; obtain ⟨s1, s2, s3⟩ := hSw; go_simp; try with_reducible rfl)
                try simp only [Act.put, List.setIfInBounds_toArray, List.set_cons_zero, List.set_cons_succ]
                refine wpAnyG_take (i := 11) (v := ?v11x17) rfl (by kernel_rfl) (fun _ _ _ h => h) (Or.inl ⟨by rfl, ?y11x17⟩) hHeld ?r11x17
                case y11x17 => (intro wS hSw; obtain ⟨s1, s2, s3⟩ := hSw; go_simp; try with_reducible rfl)
                try simp only [Act.put, List.setIfInBounds_toArray, List.set_cons_zero, List.set_cons_succ]
                have E14 : Cl p8 [.int .i64 0, .int .i64 0, .int .i64 0] 32 v13 := N13.1 _ (.tail _ (.head _))
                have ne14 : ∀ x ∈ ([(p12, [.int .i64 0, .int .i64 0], 24)] : List (Nat × List Value × TypeId)), x.1 ≠ p8 := by
                  intro x hx
                  simp only [List.mem_cons, List.not_mem_nil, or_false] at hx
                  subst hx
                  have := L12 _ (.head _); omega
                have T14 := (N13.mono (l' := [(p12, [.int .i64 0, .int .i64 0], 24)]) (fun x hx => by simp only [List.mem_cons, List.not_mem_nil, or_false] at hx ⊢; exact .inl hx)).set3 E14 ne14 S8 (.int .i64 t.a) (.int .i64 t.b) (.int .i64 t.c)
                have c140 := E14.cell 0
                have f140 := E14.frozen 0
                have c141 := E14.cell 1
                have f141 := E14.frozen 1
                have c142 := E14.cell 2
                have f142 := E14.frozen 2
                have l14 := E14.lt
                simp at c140 c141 c142
                refine wpAnyG_one (i := 14) rfl (by kernel_rfl) (fun K hK => ?_)
                go_simp
                refine hK.out _ _ (HS3.out _ T14.2) ?_
                clear hK K
                try simp only [Act.put, List.setIfInBounds_toArray, List.set_cons_zero, List.set_cons_succ]
                generalize hx14 : World.setCell _ _ _ = x14
                rw [hx14] at T14
                clear hx14 c140 f140 c141 f141 c142 f142 l14
                have U14 : Cl p12 [.int .i64 0, .int .i64 0] 24 x14 := T14.1 _ (.tail _ (.head _))
                have c140 := U14.cell 0
                have f140 := U14.frozen 0
                have c141 := U14.cell 1
                have f141 := U14.frozen 1
                have l14 := U14.lt
                simp at c140 c141
                have me14 : ∀ x ∈ ([(p8, t.l, 32)] : List (Nat × List Value × TypeId)), x.1 ≠ p12 := by
                  intro x hx
                  simp only [List.mem_cons, List.not_mem_nil, or_false] at hx
                  subst hx
                  have := L12 _ (.head _); omega
                have V14 := (T14.mono (l' := [(p8, t.l, 32)]) (fun x hx => by simp only [List.mem_cons, List.not_mem_nil, or_false] at hx ⊢; exact .inl hx)).set2 U14 me14 S12 (.int .i64 0) (.int .i64 0)
                refine wpAnyG_last (i := 15) rfl (by kernel_rfl) (by kernel_rfl) (fun K hK => ?_)
                go_simp
                refine hK.out _ _ ?_
                clear hK K
                try simp only [Act.put, List.setIfInBounds_toArray, List.set_cons_zero, List.set_cons_succ]
                refine wpAnyG_done (by kernel_rfl) ?_ _
                generalize hx14 : World.setCell _ _ _ = y14
                rw [hx14] at V14
                clear hx14
                go_wp2
                go_meet
                exact ⟨_, _, rfl, rfl, t, ht, V14.mono (fun x hx => by simp only [List.mem_cons, List.not_mem_nil, or_false] at hx ⊢; exact hx.symm)⟩
            · go_simp
              obtain ⟨p15, hp15⟩ : ∃ p, p = wr.drew.heap.size := ⟨_, rfl⟩
              have L15 := N0.lt
              have S15 := N0.2.size
              have N15 := N0.new [.int .i64 0, .int .i64 0] 24
              rw [← hp15] at L15 S15 N15
              refine hK.out _ _ (HS3.out _ N15.2) ?_
              clear hK K
              try simp only [Act.put, List.setIfInBounds_toArray, List.set_cons_zero, List.set_cons_succ]
              generalize hv15 : World.drew (World.alloc _ _) = v15
              try rw [show wr.heap.size = p15 from hp15.symm]
              rw [show wr.drew.alloc (.cells #[.int .i64 0, .int .i64 0] 24) = v15 from hv15] at N15
              clear hv15 hp15
              refine wpAnyG_two (i := 8) (j := 12) rfl rfl (by kernel_rfl) (fun K hK => ?_) (fun K hK => ?_)
              · go_simp
                refine (HCq.out _).mono ?_
                rintro e v16 ⟨t, rfl, ht, kv16⟩
                have N16 := N15.below kv16
                refine hK.out _ _ (HS3.out _ N16.2) ?_
                clear hK K
                try simp only [Act.put, List.setIfInBounds_toArray, List.set_cons_zero, List.set_cons_succ]
                clear hHeld
                have hHeld : S3c q b i v16 := (HS3.out _ N16.2)
                refine wpAnyG_take (i := 9) (v := ?v9x18) rfl (by kernel_rfl) (fun _ _ _ h => h) (Or.inl ⟨by rfl, ?y9x18⟩) hHeld ?r9x18
                case y9x18 => (intro wS hSw; obtain ⟨s1, s2, s3⟩ := hSw; go_simp; try with_reducible rfl)
                try simp only [Act.put, List.setIfInBounds_toArray, List.set_cons_zero, List.set_cons_succ]
                refine wpAnyG_take (i := 10) (v := ?v10x19) rfl (by kernel_rfl) (fun _ _ _ h => h) (Or.inl ⟨by rfl, ?y10x19⟩) hHeld ?r10x19
                case y10x19 => (intro wS hSw; obtain ⟨s1, s2, s3⟩ := hSw; go_simp; try with_reducible rfl)
                try simp only [Act.put, List.setIfInBounds_toArray, List.set_cons_zero, List.set_cons_succ]
                refine wpAnyG_take (i := 11) (v := ?v11x20) rfl (by kernel_rfl) (fun _ _ _ h => h) (Or.inl ⟨by rfl, ?y11x20⟩) hHeld ?r11x20
                case y11x20 => (intro wS hSw; obtain ⟨s1, s2, s3⟩ := hSw; go_simp; try with_reducible rfl)
                try simp only [Act.put, List.setIfInBounds_toArray, List.set_cons_zero, List.set_cons_succ]
                refine wpAnyG_one (i := 12) rfl (by kernel_rfl) (fun K hK => ?_)
                go_simp
                obtain ⟨p17, hp17⟩ : ∃ p, p = v16.heap.size := ⟨_, rfl⟩
                have L17 := N16.lt
                have S17 := N16.2.size
                have N17 := N16.new [.int .i64 0, .int .i64 0, .int .i64 0] 32
                rw [← hp17] at L17 S17 N17
                refine hK.out _ _ (HS3.out _ N17.2) ?_
                clear hK K
                try simp only [Act.put, List.setIfInBounds_toArray, List.set_cons_zero, List.set_cons_succ]
                generalize hv17 : World.alloc _ _ = v17
                rw [← hp17]
                rw [show v16.alloc (.cells #[.int .i64 0, .int .i64 0, .int .i64 0] 32) = v17 from hv17] at N17
                clear hv17 hp17
                have E18 : Cl p17 [.int .i64 0, .int .i64 0, .int .i64 0] 32 v17 := N17.1 _ (.head _)
                have ne18 : ∀ x ∈ ([(p15, [.int .i64 0, .int .i64 0], 24)] : List (Nat × List Value × TypeId)), x.1 ≠ p17 := by
                  intro x hx
                  simp only [List.mem_cons, List.not_mem_nil, or_false] at hx
                  subst hx
                  have := L17 _ (.head _); omega
                have T18 := (N17.mono (l' := [(p15, [.int .i64 0, .int .i64 0], 24)]) (fun x hx => by simp only [List.mem_cons, List.not_mem_nil, or_false] at hx ⊢; exact .inr hx)).set3 E18 ne18 S17 (.int .i64 t.a) (.int .i64 t.b) (.int .i64 t.c)
                have c180 := E18.cell 0
                have f180 := E18.frozen 0
                have c181 := E18.cell 1
                have f181 := E18.frozen 1
                have c182 := E18.cell 2
                have f182 := E18.frozen 2
                have l18 := E18.lt
                simp at c180 c181 c182
                refine wpAnyG_one (i := 14) rfl (by kernel_rfl) (fun K hK => ?_)
                go_simp
                refine hK.out _ _ (HS3.out _ T18.2) ?_
                clear hK K
                try simp only [Act.put, List.setIfInBounds_toArray, List.set_cons_zero, List.set_cons_succ]
                generalize hx18 : World.setCell _ _ _ = x18
                rw [hx18] at T18
                clear hx18 c180 f180 c181 f181 c182 f182 l18
                have U18 : Cl p15 [.int .i64 0, .int .i64 0] 24 x18 := T18.1 _ (.tail _ (.head _))
                have c180 := U18.cell 0
                have f180 := U18.frozen 0
                have c181 := U18.cell 1
                have f181 := U18.frozen 1
                have l18 := U18.lt
                simp at c180 c181
                have me18 : ∀ x ∈ ([(p17, t.l, 32)] : List (Nat × List Value × TypeId)), x.1 ≠ p15 := by
                  intro x hx
                  simp only [List.mem_cons, List.not_mem_nil, or_false] at hx
                  subst hx
                  have := L17 _ (.head _); omega
                have V18 := (T18.mono (l' := [(p17, t.l, 32)]) (fun x hx => by simp only [List.mem_cons, List.not_mem_nil, or_false] at hx ⊢; exact .inl hx)).set2 U18 me18 S15 (.int .i64 0) (.int .i64 0)
                refine wpAnyG_last (i := 15) rfl (by kernel_rfl) (by kernel_rfl) (fun K hK => ?_)
                go_simp
                refine hK.out _ _ ?_
                clear hK K
                try simp only [Act.put, List.setIfInBounds_toArray, List.set_cons_zero, List.set_cons_succ]
                refine wpAnyG_done (by kernel_rfl) ?_ _
                generalize hx18 : World.setCell _ _ _ = y18
                rw [hx18] at V18
                clear hx18
                go_wp2
                go_meet
                exact ⟨_, _, rfl, rfl, t, ht, V18.mono (fun x hx => by simp only [List.mem_cons, List.not_mem_nil, or_false] at hx ⊢; exact hx.symm)⟩
              · go_simp
                obtain ⟨p19, hp19⟩ : ∃ p, p = v15.heap.size := ⟨_, rfl⟩
                have L19 := N15.lt
                have S19 := N15.2.size
                have N19 := N15.new [.int .i64 0, .int .i64 0, .int .i64 0] 32
                rw [← hp19] at L19 S19 N19
                refine hK.out _ _ (HS3.out _ N19.2) ?_
                clear hK K
                try simp only [Act.put, List.setIfInBounds_toArray, List.set_cons_zero, List.set_cons_succ]
                generalize hv19 : World.alloc _ _ = v19
                rw [← hp19]
                rw [show v15.alloc (.cells #[.int .i64 0, .int .i64 0, .int .i64 0] 32) = v19 from hv19] at N19
                clear hv19 hp19
                refine wpAnyG_one (i := 8) rfl (by kernel_rfl) (fun K hK => ?_)
                go_simp
                refine (HCq.out _).mono ?_
                rintro e v20 ⟨t, rfl, ht, kv20⟩
                have N20 := N19.below kv20
                refine hK.out _ _ (HS3.out _ N20.2) ?_
                clear hK K
                try simp only [Act.put, List.setIfInBounds_toArray, List.set_cons_zero, List.set_cons_succ]
                clear hHeld
                have hHeld : S3c q b i v20 := (HS3.out _ N20.2)
                refine wpAnyG_take (i := 9) (v := ?v9x21) rfl (by kernel_rfl) (fun _ _ _ h => h) (Or.inl ⟨by rfl, ?y9x21⟩) hHeld ?r9x21
                case y9x21 => (intro wS hSw; obtain ⟨s1, s2, s3⟩ := hSw; go_simp; try with_reducible rfl)
                try simp only [Act.put, List.setIfInBounds_toArray, List.set_cons_zero, List.set_cons_succ]
                refine wpAnyG_take (i := 10) (v := ?v10x22) rfl (by kernel_rfl) (fun _ _ _ h => h) (Or.inl ⟨by rfl, ?y10x22⟩) hHeld ?r10x22
                case y10x22 => (intro wS hSw; obtain ⟨s1, s2, s3⟩ := hSw; go_simp; try with_reducible rfl)
                try simp only [Act.put, List.setIfInBounds_toArray, List.set_cons_zero, List.set_cons_succ]
                refine wpAnyG_take (i := 11) (v := ?v11x23) rfl (by kernel_rfl) (fun _ _ _ h => h) (Or.inl ⟨by rfl, ?y11x23⟩) hHeld ?r11x23
                case y11x23 => (intro wS hSw; obtain ⟨s1, s2, s3⟩ := hSw; go_simp; try with_reducible rfl)
                try simp only [Act.put, List.setIfInBounds_toArray, List.set_cons_zero, List.set_cons_succ]
                have E21 : Cl p19 [.int .i64 0, .int .i64 0, .int .i64 0] 32 v20 := N20.1 _ (.head _)
                have ne21 : ∀ x ∈ ([(p15, [.int .i64 0, .int .i64 0], 24)] : List (Nat × List Value × TypeId)), x.1 ≠ p19 := by
                  intro x hx
                  simp only [List.mem_cons, List.not_mem_nil, or_false] at hx
                  subst hx
                  have := L19 _ (.head _); omega
                have T21 := (N20.mono (l' := [(p15, [.int .i64 0, .int .i64 0], 24)]) (fun x hx => by simp only [List.mem_cons, List.not_mem_nil, or_false] at hx ⊢; exact .inr hx)).set3 E21 ne21 S19 (.int .i64 t.a) (.int .i64 t.b) (.int .i64 t.c)
                have c210 := E21.cell 0
                have f210 := E21.frozen 0
                have c211 := E21.cell 1
                have f211 := E21.frozen 1
                have c212 := E21.cell 2
                have f212 := E21.frozen 2
                have l21 := E21.lt
                simp at c210 c211 c212
                refine wpAnyG_one (i := 14) rfl (by kernel_rfl) (fun K hK => ?_)
                go_simp
                refine hK.out _ _ (HS3.out _ T21.2) ?_
                clear hK K
                try simp only [Act.put, List.setIfInBounds_toArray, List.set_cons_zero, List.set_cons_succ]
                generalize hx21 : World.setCell _ _ _ = x21
                rw [hx21] at T21
                clear hx21 c210 f210 c211 f211 c212 f212 l21
                have U21 : Cl p15 [.int .i64 0, .int .i64 0] 24 x21 := T21.1 _ (.tail _ (.head _))
                have c210 := U21.cell 0
                have f210 := U21.frozen 0
                have c211 := U21.cell 1
                have f211 := U21.frozen 1
                have l21 := U21.lt
                simp at c210 c211
                have me21 : ∀ x ∈ ([(p19, t.l, 32)] : List (Nat × List Value × TypeId)), x.1 ≠ p15 := by
                  intro x hx
                  simp only [List.mem_cons, List.not_mem_nil, or_false] at hx
                  subst hx
                  have := L19 _ (.head _); omega
                have V21 := (T21.mono (l' := [(p19, t.l, 32)]) (fun x hx => by simp only [List.mem_cons, List.not_mem_nil, or_false] at hx ⊢; exact .inl hx)).set2 U21 me21 S15 (.int .i64 0) (.int .i64 0)
                refine wpAnyG_last (i := 15) rfl (by kernel_rfl) (by kernel_rfl) (fun K hK => ?_)
                go_simp
                refine hK.out _ _ ?_
                clear hK K
                try simp only [Act.put, List.setIfInBounds_toArray, List.set_cons_zero, List.set_cons_succ]
                refine wpAnyG_done (by kernel_rfl) ?_ _
                generalize hx21 : World.setCell _ _ _ = y21
                rw [hx21] at V21
                clear hx21
                go_wp2
                go_meet
                exact ⟨_, _, rfl, rfl, t, ht, V21.mono (fun x hx => by simp only [List.mem_cons, List.not_mem_nil, or_false] at hx ⊢; exact hx.symm)⟩
          case rest =>
            obtain ⟨B12, B13, rfl, rfl, HR2⟩ := hcut
            obtain ⟨t, ht, hm⟩ := HR2.out
            have HT : Hid (MQ.Cz q q t) := ht
            have HBf : Hid (Below w10.heap.size w10 wc) := HBe.out.trans (hm.2.mono HBe.out.size)
            have g0 := (hm.1 _ (.tail _ (.head _))).cell 0
            have t0 := (hm.1 _ (.head _)).cell 0
            have t1 := (hm.1 _ (.head _)).cell 1
            have t2 := (hm.1 _ (.head _)).cell 2
            have r0 := ((HM10.out.1.below HBf.out).1 _ (.head _)).cell 0
            have r1 := ((HM10.out.1.below HBf.out).1 _ (.head _)).cell 1
            have r2 := ((HM10.out.1.below HBf.out).1 _ (.head _)).cell 2
            simp at g0 t0 t1 t2 r0 r1 r2
            have HNx : Hid (∀ s : Bool, (s = true ↔ sb = true ∨ t = r) → (s = true ↔ ∃ q, q ∈ L.take (i + 1) ∧ MQ.Cz q q r)) := fun s hs => by
              have e1 : L.take (i + 1) = L.take i ++ [q] := by
                rw [List.take_add_one, HQi.out.1]
                rfl
              rw [hs, HSb.out, e1]
              constructor
              · rintro (⟨x, h1, h2⟩ | rfl)
                · exact ⟨x, List.mem_append_left _ h1, h2⟩
                · exact ⟨q, by simp, HT.out⟩
              · rintro ⟨x, h1, h2⟩
                rw [List.mem_append, List.mem_singleton] at h1
                rcases h1 with h1 | rfl
                · exact .inl ⟨x, h1, h2⟩
                · exact .inr (MQ.Cz.one HQi.out.2 HT.out h2)
            clear ht hm HR2 HBe HSb HCq HS3
            cases sb
            · by_cases ha : t.a = r.a
              · have b1 : (t.a == r.a) = true := by simp [ha]
                by_cases hbb : t.b = r.b
                · have b2 : (t.b == r.b) = true := by simp [hbb]
                  by_cases hc : t.c = r.c
                  · have b3 : (t.c == r.c) = true := by simp [hc]
                    have HNs := HNx.out true (by simp; obtain ⟨x1, x2, x3⟩ := t; obtain ⟨y1, y2, y3⟩ := r; simp at ha hbb hc; rw [ha, hbb, hc])
                    have HNs : Hid (true = true ↔ ∃ q, q ∈ L.take (i + 1) ∧ MQ.Cz q q r) := HNs
                    clear ha hbb hc HNx
                    go_wp2
                    go_roundw
                    case rel => exact ⟨i + 1, true, rfl, by go_num, by omega, HNs.out, HBf.out⟩
                    case measure => simp [intOf]; omega
                  · have b3 : (t.c == r.c) = false := beq_eq_false_iff_ne.2 hc
                    have HNs : Hid (false = true ↔ ∃ q, q ∈ L.take (i + 1) ∧ MQ.Cz q q r) := HNx.out false (by simp; exact fun h => hc (by rw [h]))
                    clear ha hbb hc HNx
                    go_wp2
                    go_roundw
                    case rel => exact ⟨i + 1, false, rfl, by go_num, by omega, HNs.out, HBf.out⟩
                    case measure => simp [intOf]; omega
                · have b2 : (t.b == r.b) = false := beq_eq_false_iff_ne.2 hbb
                  have HNs : Hid (false = true ↔ ∃ q, q ∈ L.take (i + 1) ∧ MQ.Cz q q r) := HNx.out false (by simp; exact fun h => hbb (by rw [h]))
                  clear ha hbb HNx
                  go_wp2
                  go_roundw
                  case rel => exact ⟨i + 1, false, rfl, by go_num, by omega, HNs.out, HBf.out⟩
                  case measure => simp [intOf]; omega
              · have b1 : (t.a == r.a) = false := beq_eq_false_iff_ne.2 ha
                have HNs : Hid (false = true ↔ ∃ q, q ∈ L.take (i + 1) ∧ MQ.Cz q q r) := HNx.out false (by simp; exact fun h => ha (by rw [h]))
                clear ha HNx
                go_wp2
                go_roundw
                case rel => exact ⟨i + 1, false, rfl, by go_num, by omega, HNs.out, HBf.out⟩
                case measure => simp [intOf]; omega
            · have HNs : Hid (true = true ↔ ∃ q, q ∈ L.take (i + 1) ∧ MQ.Cz q q r) := HNx.out true (by simp)
              clear HNx
              go_wp2
              go_roundw
              case rel => exact ⟨i + 1, true, rfl, by go_num, by omega, HNs.out, HBf.out⟩
              case measure => simp [intOf]; omega
        · obtain rfl : i = L.length := by omega
          have HEq : Hid (sb = decide (l = lf)) := by
            have h1 := HSb.out
            rw [List.take_length, ← HDup.out] at h1
            show sb = decide (l = lf)
            by_cases h2 : l = lf
            · rw [decide_eq_true h2]; exact h1.2 h2
            · rw [decide_eq_false h2]
              cases sb
              · rfl
              · exact absurd (h1.1 rfl) h2
          have HIn : Hid (Calls Try.prog 22 #[.slice a l.length c, .slice af lf.length cf] wr fun e w' => e = .returned (.bool sb) ∧ Below wr.heap.size wr w') := by
            show Calls _ _ _ _ _
            refine (refInts_any _ _ l lf wr (is_below HM10.out.2.1 HBe.out) (is_below HM10.out.2.2.1 HBe.out) (by omega) (by omega)).mono ?_
            rintro e w' ⟨rfl, k, rfl⟩
            rw [HEq.out]
            exact ⟨rfl, below_drewN' (Below.refl _ _)⟩
          have HKe : Hid (Below w.heap.size w wr) := (HM10.out.1.below HBe.out).2
          clear HSb HBe HM10 hi hin HEq
          go_wp2_with fail
          refine HIn.out.mono ?_
          rintro e w11 ⟨rfl, k11⟩
          have HKf : Hid (Below w.heap.size w w11) := HKe.out.trans (k11.mono HKe.out.size)
          clear k11 HKe HIn
          cases sb
          · go_wp2_with fail
            go_ret
            exact ⟨rfl, HKf.out⟩
          · go_wp2_with fail
            go_ret
            exact ⟨rfl, HKf.out⟩
  · -- a fault
    have hcb : (c0 == 0) = false := beq_eq_false_iff_ne.2 hc
    obtain ⟨rfl, rfl⟩ : c1 = c0 ∧ d1 = d0 := by
      have h := HPF.out
      rw [gfault, if_pos (by rw [HCD.out]; intro h; exact hc (congrArg Prod.fst h)), HCD.out] at h
      simp at h; omega
    obtain rfl : l = [] := HGO.out.bad (by rw [HPF.out]; intro h; exact hc (congrArg Prod.fst h))
    have hcn : (c1 != 0) = true := by simpa using hc
    clear hc
    go_wp2_with fail
    rw [← hW2]
    clear hW2 v0
    refine (HG.out.begun _ (HG.out.keep _ _ HBG.out HM2.out.2)).mono ?_
    rintro e w4 ⟨rfl, k4⟩
    have HM4 := HM2.out.below k4
    have p0 := (HM4.1 _ (.head _)).cell 0
    have p1 := (HM4.1 _ (.head _)).cell 1
    have p2 := (HM4.1 _ (.tail _ (.head _))).cell 0
    have p3 := (HM4.1 _ (.tail _ (.head _))).cell 1
    simp at p0 p1 p2 p3
    have HK4 : Hid (Below w.heap.size w w4) := HM4.2
    clear HM4 k4 HM2
    go_wp2_with fail
    go_ret
    exact ⟨rfl, HK4.out⟩

end Go.Proofs.Ytijkanilpblogae
