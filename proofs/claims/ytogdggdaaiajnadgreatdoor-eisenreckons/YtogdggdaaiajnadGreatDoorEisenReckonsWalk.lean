/- The law EisenReckons, of whatever Norm, Mul, Div and Gcd answer as the document asks. -/
import Derived.Test.YtogdggdaaiajnadGreatDoorReckonsBase
set_option linter.unusedSimpArgs false
set_option linter.unusedVariables false
set_option maxRecDepth 100000
namespace Go.Proofs.YtogdggdaaiajnadGreatDoor
open Go.RowKit

/-- What is asked of the example and of the four. -/
structure EisenIs (T : Int) (Bg : World → Prop) : Prop where
  keep : ∀ w w' : World, Bg w → Below w.heap.size w w' → Bg w'
  begun : ∀ w : World, Bg w → Calls Tryz.prog 20 #[] w fun e w' => e = .returned (.bool true) ∧ Below w.heap.size w w'
  norm : ∀ (x : Pp) (w : World), Calls Tryz.prog 16 #[pv x] w fun e w' => e = .returned (.tuple #[.int .i64 (if okP x then x.norm T else 0), fv (pfl 0 [x])]) ∧ Below w.heap.size w w'
  mul : ∀ (x y : Pp) (w : World), Calls Tryz.prog 17 #[pv x, pv y] w fun e w' => e = .returned (.tuple #[pv (mulV T x y), fv (mulF T x y)]) ∧ Below w.heap.size w w'
  div : ∀ (x y : Pp) (w : World), Calls Tryz.prog 18 #[pv x, pv y] w fun e w' => e = .returned (.tuple #[pv (divQ T x y), pv (divR T x y), fv (divF x y)]) ∧ Below w.heap.size w w'
  gcd : ∀ (x y : Pp) (w : World), Calls Tryz.prog 19 #[pv x, pv y] w fun e w' => (∃ g, e = .returned (.tuple #[pv g, fv (pfl 0 [x, y])]) ∧ (pfl 0 [x, y] ≠ (0, 0) → g = Pp.zero) ∧ (pfl 0 [x, y] = (0, 0) → Gd T x y g ∧ (IsCh T g ∨ g = Pp.zero))) ∧ Below w.heap.size w w'

set_option maxHeartbeats 16000000 in
theorem er_start (T : Int) (Bg : World → Prop) (hT : TT T) (G : EisenIs T Bg) (x y : Pp) (w : World) (hbg : Bg w) (hg : Rg 1 T (unitsN T) (unitOf T) w) :
    Calls Tryz.prog 4 #[pv x, pv y] w fun e w' => e = .returned (.bool true) ∧ Below w.heap.size w w' := by
  have HG : Hid (EisenIs T Bg) := G
  have HBG : Hid (Bg w) := hbg
  clear hbg
  have HT : Hid (TT T) := hT
  obtain ⟨U, hU⟩ : ∃ U : Int, U = unitsN T := ⟨_, rfl⟩
  obtain ⟨u, hu⟩ : ∃ u, u = unitOf T := ⟨_, rfl⟩
  rw [← hU, ← hu] at hg
  have HRG : Hid (Rg 1 T U u w) := hg
  have hg2 := (hg.alloc (.cells #[.int .i64 x.a, .int .i64 x.b] 23)).alloc (.cells #[.int .i64 y.a, .int .i64 y.b] 23)
  have g0 := hg2.c0
  have g1 := hg2.c1
  have g2 := hg2.c2
  have g3 := hg2.c3
  have g4 := hg.lt
  have HU : Hid (U = unitsN T) := hU
  have Hu : Hid (u = unitOf T) := hu
  clear G hT hg hg2 hU hu
  go_enter Tryz.func4, Tryz.ntmps4
  go_wp2_with fail
  obtain ⟨W0, hW0⟩ : ∃ W0, W0 = ((w.alloc (.cells #[.int .i64 x.a, .int .i64 x.b] 23)).alloc (.cells #[.int .i64 y.a, .int .i64 y.b] 23)).alloc (.cells #[.int .i64 T, .int .i64 U, .int .i64 u.a, .int .i64 u.b] 26) := ⟨_, rfl⟩
  rw [← hW0]
  have X0 : Sv w.heap.size x.a x.b W0 := by rw [hW0]; exact sv_alloc (sv_alloc (sv_new _ _ _ rfl _ _) _) _
  have Y0 : Sv (w.heap.size + 1) y.a y.b W0 := by rw [hW0]; exact sv_alloc (sv_new _ _ _ (by simp) _ _) _
  have R0 : Rg (w.heap.size + 2) T U u W0 := by rw [hW0]; exact rg_new _ _ _ (by simp) _ _ _
  have K0 : Below w.heap.size w W0 := by rw [hW0]; exact below3 _ _ _ _
  clear hW0 g0 g1 g2 g3 g4
  obtain ⟨n1, hn1⟩ : ∃ n1 : Int, n1 = if okP x then x.norm T else 0 := ⟨_, rfl⟩
  obtain ⟨f1, hf1⟩ : ∃ f1, f1 = pfl 0 [x] := ⟨_, rfl⟩
  have HN1 : Hid (n1 = if okP x then x.norm T else 0) := hn1
  have HF1 : Hid (f1 = pfl 0 [x]) := hf1
  refine (HG.out.norm x W0).mono ?_
  rw [← hn1, ← hf1]
  rintro e w1 ⟨rfl, k1⟩
  have c1 := k1.trans ((alloc1 w1 (.cells #[.int .i64 f1.1, .int .i64 f1.2] 28)).mono k1.size)
  have X1 := X0.below c1
  have Y1 := Y0.below c1
  have R1 := R0.below c1
  have F1 : Sv w1.heap.size f1.1 f1.2 (w1.alloc (.cells #[.int .i64 f1.1, .int .i64 f1.2] 28)) := sv_new _ _ _ rfl _ _
  have K1 := K0.trans (c1.mono K0.size)
  have x0 := X1.c0
  have x1 := X1.c1
  have y0 := Y1.c0
  have y1 := Y1.c1
  have HX1 : Hid (Sv w.heap.size x.a x.b (w1.alloc (.cells #[.int .i64 f1.1, .int .i64 f1.2] 28))) := X1
  have HY1 : Hid (Sv (w.heap.size + 1) y.a y.b (w1.alloc (.cells #[.int .i64 f1.1, .int .i64 f1.2] 28))) := Y1
  have HR1 : Hid (Rg (w.heap.size + 2) T U u (w1.alloc (.cells #[.int .i64 f1.1, .int .i64 f1.2] 28))) := R1
  have HFF1 : Hid (Sv w1.heap.size f1.1 f1.2 (w1.alloc (.cells #[.int .i64 f1.1, .int .i64 f1.2] 28))) := F1
  have HK1 : Hid (Below w.heap.size w (w1.alloc (.cells #[.int .i64 f1.1, .int .i64 f1.2] 28))) := K1
  clear hn1 hf1 k1 c1 X1 Y1 R1 F1 K1 X0 Y0 R0 K0
  go_wp2_with fail
  refine (HG.out.mul x y _).mono ?_
  obtain ⟨p, hp⟩ : ∃ p, p = mulV T x y := ⟨_, rfl⟩
  obtain ⟨f2, hf2⟩ : ∃ f2, f2 = mulF T x y := ⟨_, rfl⟩
  have HP : Hid (p = mulV T x y) := hp
  have HF2 : Hid (f2 = mulF T x y) := hf2
  rw [← hp, ← hf2]
  clear hp hf2
  rintro e w2 ⟨rfl, k2⟩
  clear x0 x1 y0 y1
  have c2 := ((k2.trans ((alloc1 w2 (.cells #[.int .i64 p.a, .int .i64 p.b] 23)).mono (k2).size)).trans ((alloc1 (w2.alloc (.cells #[.int .i64 p.a, .int .i64 p.b] 23)) (.cells #[.int .i64 f2.1, .int .i64 f2.2] 28)).mono ((k2.trans ((alloc1 w2 (.cells #[.int .i64 p.a, .int .i64 p.b] 23)).mono (k2).size))).size))
  have X_2 : Hid (Sv (w.heap.size) (x.a) (x.b) ((w2.alloc (.cells #[.int .i64 p.a, .int .i64 p.b] 23)).alloc (.cells #[.int .i64 f2.1, .int .i64 f2.2] 28))) := HX1.out.below c2
  have Y_2 : Hid (Sv (w.heap.size + 1) (y.a) (y.b) ((w2.alloc (.cells #[.int .i64 p.a, .int .i64 p.b] 23)).alloc (.cells #[.int .i64 f2.1, .int .i64 f2.2] 28))) := HY1.out.below c2
  have FA_2 : Hid (Sv (w1.heap.size) (f1.1) (f1.2) ((w2.alloc (.cells #[.int .i64 p.a, .int .i64 p.b] 23)).alloc (.cells #[.int .i64 f2.1, .int .i64 f2.2] 28))) := HFF1.out.below c2
  have PP_2 : Hid (Sv (w2.heap.size) (p.a) (p.b) ((w2.alloc (.cells #[.int .i64 p.a, .int .i64 p.b] 23)).alloc (.cells #[.int .i64 f2.1, .int .i64 f2.2] 28))) := sv_alloc (sv_new w2 _ _ rfl _ _) _
  have FB_2 : Hid (Sv (w2.heap.size + 1) (f2.1) (f2.2) ((w2.alloc (.cells #[.int .i64 p.a, .int .i64 p.b] 23)).alloc (.cells #[.int .i64 f2.1, .int .i64 f2.2] 28))) := sv_new (w2.alloc (.cells #[.int .i64 p.a, .int .i64 p.b] 23)) _ _ (by simp) _ _
  have HR_2 : Hid (Rg (w.heap.size + 2) T U u ((w2.alloc (.cells #[.int .i64 p.a, .int .i64 p.b] 23)).alloc (.cells #[.int .i64 f2.1, .int .i64 f2.2] 28))) := HR1.out.below c2
  have HK_2 : Hid (Below w.heap.size w ((w2.alloc (.cells #[.int .i64 p.a, .int .i64 p.b] 23)).alloc (.cells #[.int .i64 f2.1, .int .i64 f2.2] 28))) := HK1.out.trans (c2.mono HK1.out.size)
  clear k2 c2 HX1 HY1 HFF1 HR1 HK1
  have x0 := X_2.out.c0
  have x1 := X_2.out.c1
  have y0 := Y_2.out.c0
  have y1 := Y_2.out.c1
  go_wp2_with fail
  refine (HG.out.div x y _).mono ?_
  obtain ⟨q, hq⟩ : ∃ q, q = divQ T x y := ⟨_, rfl⟩
  obtain ⟨r, hr⟩ : ∃ r, r = divR T x y := ⟨_, rfl⟩
  obtain ⟨f3, hf3⟩ : ∃ f3, f3 = divF x y := ⟨_, rfl⟩
  have HQ : Hid (q = divQ T x y) := hq
  have HRr : Hid (r = divR T x y) := hr
  have HF3 : Hid (f3 = divF x y) := hf3
  rw [← hq, ← hr, ← hf3]
  clear hq hr hf3
  rintro e w3 ⟨rfl, k3⟩
  clear x0 x1 y0 y1
  have c3 := (((k3.trans ((alloc1 w3 (.cells #[.int .i64 q.a, .int .i64 q.b] 23)).mono (k3).size)).trans ((alloc1 (w3.alloc (.cells #[.int .i64 q.a, .int .i64 q.b] 23)) (.cells #[.int .i64 r.a, .int .i64 r.b] 23)).mono ((k3.trans ((alloc1 w3 (.cells #[.int .i64 q.a, .int .i64 q.b] 23)).mono (k3).size))).size)).trans ((alloc1 ((w3.alloc (.cells #[.int .i64 q.a, .int .i64 q.b] 23)).alloc (.cells #[.int .i64 r.a, .int .i64 r.b] 23)) (.cells #[.int .i64 f3.1, .int .i64 f3.2] 28)).mono (((k3.trans ((alloc1 w3 (.cells #[.int .i64 q.a, .int .i64 q.b] 23)).mono (k3).size)).trans ((alloc1 (w3.alloc (.cells #[.int .i64 q.a, .int .i64 q.b] 23)) (.cells #[.int .i64 r.a, .int .i64 r.b] 23)).mono ((k3.trans ((alloc1 w3 (.cells #[.int .i64 q.a, .int .i64 q.b] 23)).mono (k3).size))).size))).size))
  have X_3 : Hid (Sv (w.heap.size) (x.a) (x.b) (((w3.alloc (.cells #[.int .i64 q.a, .int .i64 q.b] 23)).alloc (.cells #[.int .i64 r.a, .int .i64 r.b] 23)).alloc (.cells #[.int .i64 f3.1, .int .i64 f3.2] 28))) := X_2.out.below c3
  have Y_3 : Hid (Sv (w.heap.size + 1) (y.a) (y.b) (((w3.alloc (.cells #[.int .i64 q.a, .int .i64 q.b] 23)).alloc (.cells #[.int .i64 r.a, .int .i64 r.b] 23)).alloc (.cells #[.int .i64 f3.1, .int .i64 f3.2] 28))) := Y_2.out.below c3
  have FA_3 : Hid (Sv (w1.heap.size) (f1.1) (f1.2) (((w3.alloc (.cells #[.int .i64 q.a, .int .i64 q.b] 23)).alloc (.cells #[.int .i64 r.a, .int .i64 r.b] 23)).alloc (.cells #[.int .i64 f3.1, .int .i64 f3.2] 28))) := FA_2.out.below c3
  have PP_3 : Hid (Sv (w2.heap.size) (p.a) (p.b) (((w3.alloc (.cells #[.int .i64 q.a, .int .i64 q.b] 23)).alloc (.cells #[.int .i64 r.a, .int .i64 r.b] 23)).alloc (.cells #[.int .i64 f3.1, .int .i64 f3.2] 28))) := PP_2.out.below c3
  have FB_3 : Hid (Sv (w2.heap.size + 1) (f2.1) (f2.2) (((w3.alloc (.cells #[.int .i64 q.a, .int .i64 q.b] 23)).alloc (.cells #[.int .i64 r.a, .int .i64 r.b] 23)).alloc (.cells #[.int .i64 f3.1, .int .i64 f3.2] 28))) := FB_2.out.below c3
  have QQ_3 : Hid (Sv (w3.heap.size) (q.a) (q.b) (((w3.alloc (.cells #[.int .i64 q.a, .int .i64 q.b] 23)).alloc (.cells #[.int .i64 r.a, .int .i64 r.b] 23)).alloc (.cells #[.int .i64 f3.1, .int .i64 f3.2] 28))) := sv_alloc (sv_alloc (sv_new w3 _ _ rfl _ _) _) _
  have RR_3 : Hid (Sv (w3.heap.size + 1) (r.a) (r.b) (((w3.alloc (.cells #[.int .i64 q.a, .int .i64 q.b] 23)).alloc (.cells #[.int .i64 r.a, .int .i64 r.b] 23)).alloc (.cells #[.int .i64 f3.1, .int .i64 f3.2] 28))) := sv_alloc (sv_new (w3.alloc (.cells #[.int .i64 q.a, .int .i64 q.b] 23)) _ _ (by simp) _ _) _
  have FC_3 : Hid (Sv (w3.heap.size + 2) (f3.1) (f3.2) (((w3.alloc (.cells #[.int .i64 q.a, .int .i64 q.b] 23)).alloc (.cells #[.int .i64 r.a, .int .i64 r.b] 23)).alloc (.cells #[.int .i64 f3.1, .int .i64 f3.2] 28))) := sv_new ((w3.alloc (.cells #[.int .i64 q.a, .int .i64 q.b] 23)).alloc (.cells #[.int .i64 r.a, .int .i64 r.b] 23)) _ _ (by simp) _ _
  have HR_3 : Hid (Rg (w.heap.size + 2) T U u (((w3.alloc (.cells #[.int .i64 q.a, .int .i64 q.b] 23)).alloc (.cells #[.int .i64 r.a, .int .i64 r.b] 23)).alloc (.cells #[.int .i64 f3.1, .int .i64 f3.2] 28))) := HR_2.out.below c3
  have HK_3 : Hid (Below w.heap.size w (((w3.alloc (.cells #[.int .i64 q.a, .int .i64 q.b] 23)).alloc (.cells #[.int .i64 r.a, .int .i64 r.b] 23)).alloc (.cells #[.int .i64 f3.1, .int .i64 f3.2] 28))) := HK_2.out.trans (c3.mono HK_2.out.size)
  clear k3 c3 X_2 Y_2 FA_2 PP_2 FB_2 HR_2 HK_2
  have x0 := X_3.out.c0
  have x1 := X_3.out.c1
  have y0 := Y_3.out.c0
  have y1 := Y_3.out.c1
  go_wp2_with fail
  refine (HG.out.gcd x y _).mono ?_
  obtain ⟨f4, hf4⟩ : ∃ f4, f4 = pfl 0 [x, y] := ⟨_, rfl⟩
  have HF4 : Hid (f4 = pfl 0 [x, y]) := hf4
  rw [← hf4]
  clear hf4
  rintro e w4 ⟨⟨g, rfl, hg1, hg2⟩, k4⟩
  have HG1 : Hid (f4 ≠ (0, 0) → g = Pp.zero) := hg1
  have HG2 : Hid (f4 = (0, 0) → Gd T x y g ∧ (IsCh T g ∨ g = Pp.zero)) := hg2
  clear hg1 hg2
  clear x0 x1 y0 y1
  have c4 := ((k4.trans ((alloc1 w4 (.cells #[.int .i64 g.a, .int .i64 g.b] 23)).mono (k4).size)).trans ((alloc1 (w4.alloc (.cells #[.int .i64 g.a, .int .i64 g.b] 23)) (.cells #[.int .i64 f4.1, .int .i64 f4.2] 28)).mono ((k4.trans ((alloc1 w4 (.cells #[.int .i64 g.a, .int .i64 g.b] 23)).mono (k4).size))).size))
  have X_4 : Hid (Sv (w.heap.size) (x.a) (x.b) ((w4.alloc (.cells #[.int .i64 g.a, .int .i64 g.b] 23)).alloc (.cells #[.int .i64 f4.1, .int .i64 f4.2] 28))) := X_3.out.below c4
  have Y_4 : Hid (Sv (w.heap.size + 1) (y.a) (y.b) ((w4.alloc (.cells #[.int .i64 g.a, .int .i64 g.b] 23)).alloc (.cells #[.int .i64 f4.1, .int .i64 f4.2] 28))) := Y_3.out.below c4
  have FA_4 : Hid (Sv (w1.heap.size) (f1.1) (f1.2) ((w4.alloc (.cells #[.int .i64 g.a, .int .i64 g.b] 23)).alloc (.cells #[.int .i64 f4.1, .int .i64 f4.2] 28))) := FA_3.out.below c4
  have PP_4 : Hid (Sv (w2.heap.size) (p.a) (p.b) ((w4.alloc (.cells #[.int .i64 g.a, .int .i64 g.b] 23)).alloc (.cells #[.int .i64 f4.1, .int .i64 f4.2] 28))) := PP_3.out.below c4
  have FB_4 : Hid (Sv (w2.heap.size + 1) (f2.1) (f2.2) ((w4.alloc (.cells #[.int .i64 g.a, .int .i64 g.b] 23)).alloc (.cells #[.int .i64 f4.1, .int .i64 f4.2] 28))) := FB_3.out.below c4
  have QQ_4 : Hid (Sv (w3.heap.size) (q.a) (q.b) ((w4.alloc (.cells #[.int .i64 g.a, .int .i64 g.b] 23)).alloc (.cells #[.int .i64 f4.1, .int .i64 f4.2] 28))) := QQ_3.out.below c4
  have RR_4 : Hid (Sv (w3.heap.size + 1) (r.a) (r.b) ((w4.alloc (.cells #[.int .i64 g.a, .int .i64 g.b] 23)).alloc (.cells #[.int .i64 f4.1, .int .i64 f4.2] 28))) := RR_3.out.below c4
  have FC_4 : Hid (Sv (w3.heap.size + 2) (f3.1) (f3.2) ((w4.alloc (.cells #[.int .i64 g.a, .int .i64 g.b] 23)).alloc (.cells #[.int .i64 f4.1, .int .i64 f4.2] 28))) := FC_3.out.below c4
  have GG_4 : Hid (Sv (w4.heap.size) (g.a) (g.b) ((w4.alloc (.cells #[.int .i64 g.a, .int .i64 g.b] 23)).alloc (.cells #[.int .i64 f4.1, .int .i64 f4.2] 28))) := sv_alloc (sv_new w4 _ _ rfl _ _) _
  have FD_4 : Hid (Sv (w4.heap.size + 1) (f4.1) (f4.2) ((w4.alloc (.cells #[.int .i64 g.a, .int .i64 g.b] 23)).alloc (.cells #[.int .i64 f4.1, .int .i64 f4.2] 28))) := sv_new (w4.alloc (.cells #[.int .i64 g.a, .int .i64 g.b] 23)) _ _ (by simp) _ _
  have HR_4 : Hid (Rg (w.heap.size + 2) T U u ((w4.alloc (.cells #[.int .i64 g.a, .int .i64 g.b] 23)).alloc (.cells #[.int .i64 f4.1, .int .i64 f4.2] 28))) := HR_3.out.below c4
  have HK_4 : Hid (Below w.heap.size w ((w4.alloc (.cells #[.int .i64 g.a, .int .i64 g.b] 23)).alloc (.cells #[.int .i64 f4.1, .int .i64 f4.2] 28))) := HK_3.out.trans (c4.mono HK_3.out.size)
  clear k4 c4 X_3 Y_3 FA_3 PP_3 FB_3 QQ_3 RR_3 FC_3 HR_3 HK_3
  obtain ⟨W4, hW4⟩ : ∃ W4, W4 = ((w4.alloc (.cells #[.int .i64 g.a, .int .i64 g.b] 23)).alloc (.cells #[.int .i64 f4.1, .int .i64 f4.2] 28)) := ⟨_, rfl⟩
  have HM : Hid (Mg w.heap.size w1.heap.size w2.heap.size w3.heap.size w4.heap.size T U u x y p q r g f1 f2 f3 f4 w W4) := by
    rw [hW4]
    exact ⟨X_4.out, Y_4.out, HR_4.out, FA_4.out, PP_4.out, FB_4.out, QQ_4.out, RR_4.out, FC_4.out, GG_4.out, FD_4.out, HK_4.out⟩
  clear X_4 Y_4 FA_4 PP_4 FB_4 QQ_4 RR_4 FC_4 GG_4 FD_4 HR_4 HK_4
  have x0 : ((w4.alloc (.cells #[.int .i64 g.a, .int .i64 g.b] 23)).alloc (.cells #[.int .i64 f4.1, .int .i64 f4.2] 28)).cell? ⟨w.heap.size, 0, none⟩ = some (.int .i64 x.a) := by rw [← hW4]; exact HM.out.x.c0
  have x1 : ((w4.alloc (.cells #[.int .i64 g.a, .int .i64 g.b] 23)).alloc (.cells #[.int .i64 f4.1, .int .i64 f4.2] 28)).cell? ⟨w.heap.size, 1, none⟩ = some (.int .i64 x.b) := by rw [← hW4]; exact HM.out.x.c1
  go_wp2_with fail
  have hz4 : W4.heap.size = w4.heap.size + 1 + 1 := by rw [hW4]; simp
  rw [← hW4] at x0 x1 ⊢
  clear hW4
  refine (PairsFault_any [x] (w4.heap.size + 1 + 1) 1 _ (by simp) (by simp [hz4]) ?_).mono ?_
  · intro j hj
    obtain rfl : j = 0 := by simp at hj; omega
    exact ⟨by rw [cell_new_at _ _ _ _ _ hz4]; rfl, by rw [cell_new_at _ _ _ _ _ hz4]; rfl⟩
  rw [← HF1.out]
  rintro e w5 ⟨rfl, k5⟩
  have c5 := ((alloc1 W4 (.cells #[.int .i64 x.a, .int .i64 x.b] 23)).trans (k5.mono (by simp))).trans ((alloc1 w5 (.cells #[.int .i64 f1.1, .int .i64 f1.2] 28)).mono (by have := k5.size; simp at this; omega))
  have HM5 : Hid (Mg w.heap.size w1.heap.size w2.heap.size w3.heap.size w4.heap.size T U u x y p q r g f1 f2 f3 f4 w (w5.alloc (.cells #[.int .i64 f1.1, .int .i64 f1.2] 28))) := HM.out.below c5
  have HW5 : Hid (Sv w5.heap.size f1.1 f1.2 (w5.alloc (.cells #[.int .i64 f1.1, .int .i64 f1.2] 28))) := sv_new _ _ _ rfl _ _
  have hb5 : w.heap.size + 2 < w5.heap.size ∧ w1.heap.size < w5.heap.size ∧ w2.heap.size + 1 < w5.heap.size ∧ w3.heap.size + 2 < w5.heap.size ∧ w4.heap.size + 1 < w5.heap.size := by
    have h1 := HM.out.rg.lt
    have h2 := HM.out.f1.lt
    have h3 := HM.out.f2.lt
    have h4 := HM.out.f3.lt
    have h5 := HM.out.f4.lt
    have h6 := k5.size
    simp at h6
    omega
  have HB5 : Hid (w.heap.size + 2 < w5.heap.size ∧ w1.heap.size < w5.heap.size ∧ w2.heap.size + 1 < w5.heap.size ∧ w3.heap.size + 2 < w5.heap.size ∧ w4.heap.size + 1 < w5.heap.size) := hb5
  clear HM c5 k5 x0 x1 hz4 hb5
  go_wp2_with fail
  refine (HG.out.begun _ (HG.out.keep _ _ HBG.out HM5.out.k)).mono ?_
  rintro e w6 ⟨rfl, k6⟩
  have M6 := HM5.out.below k6
  have V6 := HW5.out.below k6
  have HM6 : Hid (Mg w.heap.size w1.heap.size w2.heap.size w3.heap.size w4.heap.size T U u x y p q r g f1 f2 f3 f4 w w6) := M6
  have HV6 : Hid (Sv w5.heap.size f1.1 f1.2 w6) := V6
  clear HM5 HW5 k6
  have a0 := M6.f1.c0
  have a1 := M6.f1.c1
  have v0 := V6.c0
  have v1 := V6.c1
  have v2 := V6.f0
  have v3 := V6.f1
  have x0 := M6.x.c0
  have x1 := M6.x.c1
  have y0 := M6.y.c0
  have y1 := M6.y.c1
  have r0 := M6.rg.c0
  have r1 := M6.rg.c1
  have r2 := M6.rg.c2
  have r3 := M6.rg.c3
  clear M6 V6
  cases hx : okP x
  · obtain rfl : f1 = (3, 0) := by rw [HF1.out]; simp [pfl, hx]
    obtain rfl : n1 = 0 := by rw [HN1.out, hx]; rfl
    obtain rfl : f4 = (3, 0) := by rw [HF4.out]; simp [pfl, hx]
    obtain rfl : f2 = (3, 0) := by rw [HF2.out]; simp [mulF, pfl, hx]
    obtain rfl : f3 = (3, 0) := by rw [HF3.out]; simp [divF, pfl, hx]
    obtain rfl : p = Pp.zero := by rw [HP.out]; simp [mulV, mulF, pfl, hx]
    obtain rfl : q = Pp.zero := by rw [HQ.out]; simp [divQ, divF, pfl, hx]
    obtain rfl : r = Pp.zero := by rw [HRr.out]; simp [divR, divF, pfl, hx]
    obtain rfl : g = Pp.zero := HG1.out (by decide)
    clear HF1 HN1 HF4 HF2 HF3 HP HQ HRr HG1 HG2
    simp only at a0 a1 v0 v1
    have M7 := HM6.out.below (alloc1 w6 (.cells #[.int .i64 0, .int .i64 0] 23))
    have V7 := HV6.out.below (alloc1 w6 (.cells #[.int .i64 0, .int .i64 0] 23))
    have N7 : Sv w6.heap.size 0 0 (w6.alloc (.cells #[.int .i64 0, .int .i64 0] 23)) := sv_new _ _ _ rfl _ _
    have HM7 : Hid (Mg w.heap.size w1.heap.size w2.heap.size w3.heap.size w4.heap.size T U u x y Pp.zero Pp.zero Pp.zero Pp.zero (3, 0) (3, 0) (3, 0) (3, 0) w (w6.alloc (.cells #[.int .i64 0, .int .i64 0] 23))) := M7
    have HV7 : Hid (Sv w5.heap.size 3 0 (w6.alloc (.cells #[.int .i64 0, .int .i64 0] 23))) := V7
    have HN7 : Hid (Sv w6.heap.size 0 0 (w6.alloc (.cells #[.int .i64 0, .int .i64 0] 23))) := N7
    have x0' := M7.x.c0
    have x1' := M7.x.c1
    have y0' := M7.y.c0
    have y1' := M7.y.c1
    clear M7 V7 N7
    go_wp2_with fail
    refine (PairsFault_any [x, y] (w6.heap.size + 1) 2 _ (by simp) (by simp) ?_).mono ?_
    · intro j hj
      rcases (show j = 0 ∨ j = 1 by simp at hj; omega) with rfl | rfl
      · exact ⟨by rw [cell_new_at _ _ _ _ _ (by simp)]; rfl, by rw [cell_new_at _ _ _ _ _ (by simp)]; rfl⟩
      · exact ⟨by rw [cell_new_at _ _ _ _ _ (by simp)]; rfl, by rw [cell_new_at _ _ _ _ _ (by simp)]; rfl⟩
    rw [show pfl 0 [x, y] = (3, 0) by simp [pfl, hx]]
    rintro e w7 ⟨rfl, k7⟩
    have c7 := (alloc1 (w6.alloc (.cells #[.int .i64 0, .int .i64 0] 23)) (.cells #[.int .i64 x.a, .int .i64 x.b, .int .i64 y.a, .int .i64 y.b] 23)).trans (k7.mono (by simp))
    have M8 := (HM7.out.below c7).setv w5.heap.size (.int .i64 3) (.int .i64 0) HB5.out.1 HB5.out.2.1 HB5.out.2.2.1 HB5.out.2.2.2.1 HB5.out.2.2.2.2
    have V7 := HV7.out.below c7
    have V8 := V7.set 3 0
    have hne : w5.heap.size ≠ w6.heap.size := by have := HV6.out.lt; omega
    have N8 := (HN7.out.below c7).other (b' := w5.heap.size) (.int .i64 3) (.int .i64 0) hne
    have z0 := V7.c0
    have z1 := V7.c1
    have z2 := V7.f0
    have z3 := V7.f1
    have HK8 := M8.k
    have HKK : Hid (Below w.heap.size w ((w7.setCell ⟨w5.heap.size, 0, none⟩ (.int .i64 3)).setCell ⟨w5.heap.size, 1, none⟩ (.int .i64 0))) := HK8
    clear HK8 a0 a1 v0 v1 v2 v3 x0 x1 y0 y1 r0 r1 r2 r3 x0' x1' y0' y1' k7 c7 V7
    have e0 := V8.c0
    have e1 := V8.c1
    have e2 := N8.c0
    have e3 := N8.c1
    have e4 := M8.f2.c0
    have e5 := M8.f2.c1
    have e6 := M8.f3.c0
    have e7 := M8.f3.c1
    have e8 := M8.f4.c0
    have e9 := M8.f4.c1
    have i0 := M8.p.c0
    have i1 := M8.p.c1
    have i2 := M8.q.c0
    have i3 := M8.q.c1
    have i4 := M8.r.c0
    have i5 := M8.r.c1
    have i6 := M8.g.c0
    have i7 := M8.g.c1
    clear M8 V8 N8
    simp only [Pp.zero] at e0 e1 e2 e3 e4 e5 e6 e7 e8 e9 i0 i1 i2 i3 i4 i5 i6 i7
    go_wp2
    go_ret
    exact ⟨rfl, HKK.out⟩
  · obtain rfl : f1 = (0, 0) := by rw [HF1.out]; simp [pfl, hx]
    obtain rfl : n1 = x.norm T := by rw [HN1.out, hx]; rfl
    have HXB : Hid (Bd 500000000 x) := okP_true hx
    simp only at a0 a1 v0 v1
    clear HF1 HN1
    go_wp2_with fail
    refine (Norm_any T U u x _ HT.out (bd_mono HXB.out (by omega))).mono ?_
    rintro e w7 ⟨rfl, k7⟩
    have hv7 : w5.heap.size < w7.heap.size := Nat.lt_of_lt_of_le HV6.out.lt k7.size
    have M7 := (HM6.out.below k7).below (alloc1 w7 (.cells #[.int .i64 0, .int .i64 0] 23))
    have V7 := (HV6.out.below k7).below (alloc1 w7 (.cells #[.int .i64 0, .int .i64 0] 23))
    have HM7 : Hid (Mg w.heap.size w1.heap.size w2.heap.size w3.heap.size w4.heap.size T U u x y p q r g (0, 0) f2 f3 f4 w  (w7.alloc (.cells #[.int .i64 0, .int .i64 0] 23))) := M7
    have HV7 : Hid (Sv w5.heap.size 0 0 (w7.alloc (.cells #[.int .i64 0, .int .i64 0] 23))) := V7
    have HN7 : Hid (Sv w7.heap.size 0 0 (w7.alloc (.cells #[.int .i64 0, .int .i64 0] 23))) := sv_new _ _ _ rfl _ _
    have x0' := M7.x.c0
    have x1' := M7.x.c1
    have y0' := M7.y.c0
    have y1' := M7.y.c1
    clear M7 V7 k7 a0 a1 v0 v1 v2 v3 x0 x1 y0 y1 r0 r1 r2 r3 HM6 HV6
    go_wp2_with fail
    refine (PairsFault_any [x, y] (w7.heap.size + 1) 2 _ (by simp) (by simp) ?_).mono ?_
    · intro j hj
      rcases (show j = 0 ∨ j = 1 by simp at hj; omega) with rfl | rfl
      · exact ⟨by rw [cell_new_at _ _ _ _ _ (by simp)]; rfl, by rw [cell_new_at _ _ _ _ _ (by simp)]; rfl⟩
      · exact ⟨by rw [cell_new_at _ _ _ _ _ (by simp)]; rfl, by rw [cell_new_at _ _ _ _ _ (by simp)]; rfl⟩
    obtain ⟨c, hc⟩ : ∃ c, c = pfl 0 [x, y] := ⟨_, rfl⟩
    rw [← hc]
    have HC : Hid (c = pfl 0 [x, y]) := hc
    clear hc
    rintro e w8 ⟨rfl, k8⟩
    have c8 := (alloc1 (w7.alloc (.cells #[.int .i64 0, .int .i64 0] 23)) (.cells #[.int .i64 x.a, .int .i64 x.b, .int .i64 y.a, .int .i64 y.b] 23)).trans (k8.mono (by simp))
    have HM8 : Hid (Mg w.heap.size w1.heap.size w2.heap.size w3.heap.size w4.heap.size T U u x y p q r g (0, 0) f2 f3 f4 w  ((w8.setCell ⟨w5.heap.size, 0, none⟩ (.int .i64 c.1)).setCell ⟨w5.heap.size, 1, none⟩ (.int .i64 c.2))) := (HM7.out.below c8).setv w5.heap.size (.int .i64 c.1) (.int .i64 c.2) HB5.out.1 HB5.out.2.1 HB5.out.2.2.1 HB5.out.2.2.2.1 HB5.out.2.2.2.2
    have V7 := HV7.out.below c8
    have HV8 : Hid (Sv w5.heap.size c.1 c.2 ((w8.setCell ⟨w5.heap.size, 0, none⟩ (.int .i64 c.1)).setCell ⟨w5.heap.size, 1, none⟩ (.int .i64 c.2))) := V7.set c.1 c.2
    have HN8 : Hid (Sv w7.heap.size 0 0 ((w8.setCell ⟨w5.heap.size, 0, none⟩ (.int .i64 c.1)).setCell ⟨w5.heap.size, 1, none⟩ (.int .i64 c.2))) := (HN7.out.below c8).other (b' := w5.heap.size) (.int .i64 c.1) (.int .i64 c.2) (by omega)
    have z0 := V7.c0
    have z1 := V7.c1
    have z2 := V7.f0
    have z3 := V7.f1
    clear x0' x1' y0' y1' k8 c8 V7 HM7 HV7 HN7
    cases hy : okP y
    · obtain rfl : c = (3, 1) := by rw [HC.out]; simp [pfl, hx, hy]
      obtain rfl : f4 = (3, 1) := by rw [HF4.out]; simp [pfl, hx, hy]
      obtain rfl : f2 = (3, 1) := by rw [HF2.out]; simp [mulF, pfl, hx, hy]
      obtain rfl : f3 = (3, 1) := by rw [HF3.out]; simp [divF, pfl, hx, hy]
      obtain rfl : p = Pp.zero := by rw [HP.out]; simp [mulV, mulF, pfl, hx, hy]
      obtain rfl : q = Pp.zero := by rw [HQ.out]; simp [divQ, divF, pfl, hx, hy]
      obtain rfl : r = Pp.zero := by rw [HRr.out]; simp [divR, divF, pfl, hx, hy]
      obtain rfl : g = Pp.zero := HG1.out (by decide)
      clear HF4 HF2 HF3 HP HQ HRr HG1 HG2 HC
      have e0 := HV8.out.c0
      have e1 := HV8.out.c1
      have e2 := HN8.out.c0
      have e3 := HN8.out.c1
      have e4 := HM8.out.f2.c0
      have e5 := HM8.out.f2.c1
      have e6 := HM8.out.f3.c0
      have e7 := HM8.out.f3.c1
      have e8 := HM8.out.f4.c0
      have e9 := HM8.out.f4.c1
      have i0 := HM8.out.p.c0
      have i1 := HM8.out.p.c1
      have i2 := HM8.out.q.c0
      have i3 := HM8.out.q.c1
      have i4 := HM8.out.r.c0
      have i5 := HM8.out.r.c1
      have i6 := HM8.out.g.c0
      have i7 := HM8.out.g.c1
      simp only [Pp.zero] at e0 e1 e2 e3 e4 e5 e6 e7 e8 e9 i0 i1 i2 i3 i4 i5 i6 i7
      go_wp2
      go_ret
      exact ⟨rfl, HM8.out.k⟩
    · obtain rfl : c = (0, 0) := by rw [HC.out]; simp [pfl, hx, hy]
      obtain rfl : f4 = (0, 0) := by rw [HF4.out]; simp [pfl, hx, hy]
      have e0 := HV8.out.c0
      have e1 := HV8.out.c1
      have x0 := HM8.out.x.c0
      have x1 := HM8.out.x.c1
      have y0 := HM8.out.y.c0
      have y1 := HM8.out.y.c1
      have r0 := HM8.out.rg.c0
      have r1 := HM8.out.rg.c1
      have r2 := HM8.out.rg.c2
      have r3 := HM8.out.rg.c3
      have HYB : Hid (Bd 500000000 y) := okP_true hy
      simp only at e0 e1 x0 x1 y0 y1 r0 r1 r2 r3
      clear HC HF4
      go_wp2_with fail
      obtain ⟨W8, hW8⟩ : ∃ W8, W8 = (w8.setCell ⟨w5.heap.size, 0, none⟩ (.int .i64 0)).setCell ⟨w5.heap.size, 1, none⟩ (.int .i64 0) := ⟨_, rfl⟩
      have HM8' : Hid (Mg w.heap.size w1.heap.size w2.heap.size w3.heap.size w4.heap.size T U u x y p q r g (0, 0) f2 f3 (0, 0) w  W8) := by rw [hW8]; exact HM8
      have HN8' : Hid (Sv w7.heap.size 0 0 W8) := by rw [hW8]; exact HN8
      rw [← hW8]
      clear hW8 HM8 HN8 HV8 e0 e1 x0 x1 y0 y1 r0 r1 r2 r3 z0 z1 z2 z3
      have b1 := mul_bd HXB.out.a1 HXB.out.a2 HYB.out.a1 HYB.out.a2
      have b2 := mul_bd HXB.out.b1 HXB.out.b2 HYB.out.b1 HYB.out.b2
      have b3 := mul_bd HXB.out.a1 HXB.out.a2 HYB.out.b1 HYB.out.b2
      have b4 := mul_bd HXB.out.b1 HXB.out.b2 HYB.out.a1 HYB.out.a2
      have b5 := T_bd HT.out x.b HXB.out.b1 HXB.out.b2
      have b6 := mul_bd b5.1 b5.2 HYB.out.b1 HYB.out.b2
      refine (Times_any T U u x y _ (by omega) (by omega) (by omega) (by omega) (by omega) (by omega)).mono ?_
      clear b1 b2 b3 b4 b5 b6
      obtain ⟨z, hz⟩ : ∃ z, z = x.mul T y := ⟨_, rfl⟩
      rw [← hz]
      have HZ : Hid (z = x.mul T y) := hz
      clear hz
      rintro e w9 ⟨rfl, k9⟩
      have c9 := k9.trans ((alloc1 w9 (.cells #[.int .i64 z.a, .int .i64 z.b] 23)).mono k9.size)
      have HM9 : Hid (Mg w.heap.size w1.heap.size w2.heap.size w3.heap.size w4.heap.size T U u x y p q r g (0, 0) f2 f3 (0, 0) w  (w9.alloc (.cells #[.int .i64 z.a, .int .i64 z.b] 23))) := HM8'.out.below c9
      have HN9 : Hid (Sv w7.heap.size 0 0 (w9.alloc (.cells #[.int .i64 z.a, .int .i64 z.b] 23))) := HN8'.out.below c9
      have HZ9 : Hid (Sv w9.heap.size z.a z.b (w9.alloc (.cells #[.int .i64 z.a, .int .i64 z.b] 23))) := sv_new _ _ _ rfl _ _
      clear HM8' HN8' c9 k9
      go_wp2_with fail
      refine (PairsFault_any [z] (w9.heap.size + 1) 1 _ (by simp) (by simp) ?_).mono ?_
      · intro j hj
        obtain rfl : j = 0 := by simp at hj; omega
        exact ⟨by rw [cell_new_at _ _ _ _ _ (by simp)]; rfl, by rw [cell_new_at _ _ _ _ _ (by simp)]; rfl⟩
      obtain ⟨d, hd⟩ : ∃ d, d = pfl 0 [z] := ⟨_, rfl⟩
      rw [← hd]
      have HD : Hid (d = pfl 0 [z]) := hd
      clear hd
      rintro e w10 ⟨rfl, k10⟩
      have c10 := (alloc1 (w9.alloc (.cells #[.int .i64 z.a, .int .i64 z.b] 23)) (.cells #[.int .i64 z.a, .int .i64 z.b] 23)).trans (k10.mono (by simp))
      have HM10 : Hid (Mg w.heap.size w1.heap.size w2.heap.size w3.heap.size w4.heap.size T U u x y p q r g (0, 0) f2 f3 (0, 0) w  w10) := HM9.out.below c10
      have HN10 : Hid (Sv w7.heap.size 0 0 w10) := HN9.out.below c10
      have HZ10 : Hid (Sv w9.heap.size z.a z.b w10) := HZ9.out.below c10
      clear HM9 HN9 HZ9 c10 k10
      cases hzk : okP z
      · obtain rfl : d = (3, 0) := by rw [HD.out]; simp [pfl, hzk]
        obtain rfl : f2 = (9, 0) := by rw [HF2.out]; simp [mulF, pfl, hx, hy, ← HZ.out, hzk]
        obtain rfl : p = Pp.zero := by rw [HP.out]; simp [mulV, mulF, pfl, hx, hy, ← HZ.out, hzk]
        clear HD HF2 HP
        have hfield := field_fault w10 3 0
        go_wp2_with fail
        refine wp_region_G (S15 w2.heap.size w7.heap.size) 7 (by kernel_rfl) (HM10.out.s15 HN10.out) (fun hHeld => ?_)
        refine wpAnyG_take (i := 0) (v := ?v0x1) rfl (by kernel_rfl) (fun _ _ _ h => h) (Or.inl ⟨by rfl, ?y0x1⟩) hHeld ?r0x1
        case y0x1 => (intro wS hSw; obtain ⟨s1, s2, s3, s4, s5, s6⟩ := hSw; go_simp; try with_reducible rfl)
        try simp only [Act.put, List.setIfInBounds_toArray, List.set_cons_zero, List.set_cons_succ]
        refine wpAnyG_one (i := 1) rfl (by kernel_rfl) (fun K hK => ?_)
        go_simp
        refine (F_any 9 0 _).mono ?_
        rintro e wa ⟨rfl, k11⟩
        have c11 := ((Below.refl w10.heap.size w10).drew).trans k11
        have HMa := hid (HM10.out.below c11)
        have HNa := hid (HN10.out.below c11)
        clear hHeld
        have hHeld : S15 w2.heap.size w7.heap.size wa := HMa.out.s15 HNa.out
        refine hK.out _ _ hHeld ?_
        clear hK K
        try simp only [Act.put, List.setIfInBounds_toArray, List.set_cons_zero, List.set_cons_succ]
        refine wpAnyG_take (i := 2) (v := ?v2x2) rfl (by kernel_rfl) (fun _ _ _ h => h) (Or.inl ⟨by rfl, ?y2x2⟩) hHeld ?r2x2
        case y2x2 => (intro wS hSw; obtain ⟨s1, s2, s3, s4, s5, s6⟩ := hSw; go_simp; try with_reducible rfl)
        try simp only [Act.put, List.setIfInBounds_toArray, List.set_cons_zero, List.set_cons_succ]
        refine wpAnyG_take (i := 3) (v := ?v3x3) rfl (by kernel_rfl) (fun _ _ _ h => h) (Or.inl ⟨by rfl, ?y3x3⟩) hHeld ?r3x3
        case y3x3 => (intro wS hSw; obtain ⟨s1, s2, s3, s4, s5, s6⟩ := hSw; go_simp; try with_reducible rfl)
        try simp only [Act.put, List.setIfInBounds_toArray, List.set_cons_zero, List.set_cons_succ]
        refine wpAnyG_take (i := 4) (v := ?v4x4) rfl (by kernel_rfl) (fun _ _ _ h => h) (Or.inl ⟨by kernel_rfl, ?y4x4⟩) hHeld ?r4x4
        case y4x4 => (intro wS hSw; have s1 := hSw; go_simp; try with_reducible rfl)
        try simp only [Act.put, List.setIfInBounds_toArray, List.set_cons_zero, List.set_cons_succ]
        refine wpAnyG_take (i := 5) (v := ?v5x5) rfl (by kernel_rfl) (fun _ _ _ h => h) (Or.inl ⟨by kernel_rfl, ?y5x5⟩) hHeld ?r5x5
        case y5x5 => (intro wS hSw; have s1 := hSw; go_simp; try with_reducible rfl)
        try simp only [Act.put, List.setIfInBounds_toArray, List.set_cons_zero, List.set_cons_succ]
        refine wpAnyG_take (i := 6) (v := ?v6x6) rfl (by kernel_rfl) (fun _ _ _ h => h) (Or.inl ⟨by kernel_rfl, ?y6x6⟩) hHeld ?r6x6
        case y6x6 => (intro wS hSw; have s1 := hSw; go_simp; try with_reducible rfl)
        try simp only [Act.put, List.setIfInBounds_toArray, List.set_cons_zero, List.set_cons_succ]
        refine wpAnyG_last (i := 7) rfl (by kernel_rfl) (by kernel_rfl) (fun K hK => ?_)
        go_simp
        refine hK.out _ _ ?_
        clear hK K
        try simp only [Act.put, List.setIfInBounds_toArray, List.set_cons_zero, List.set_cons_succ]
        refine wpAnyG_done (by kernel_rfl) ?_ _
        clear hHeld c11 k11 HM10 HN10 HZ10 hfield
        have e6 := HMa.out.y.c0
        have e7 := HMa.out.y.c1
        have e8 := HNa.out.c0
        have e9 := HNa.out.c1
        have HNX : Hid (Nb T x) := Nb.of HT.out HXB.out
        have HNY : Hid (Nb T y) := Nb.of HT.out HYB.out
        have HG3 : Hid (Gd T x y g ∧ (IsCh T g ∨ g = Pp.zero)) := HG2.out (by first | rfl | trivial)
        have HGr : Hid (∀ w, Calls Tryz.prog 24 #[rv T U u, pv x, pv y] w fun e w' => ∃ k, e = .returned (pv k) ∧ Gd T x y k ∧ (IsCh T k ∨ k = Pp.zero) ∧ Below w.heap.size w w') := by
          rw [HU.out, Hu.out]; exact fun w => Greatest_any T x y w HT.out HNX.out HNY.out
        by_cases hy0 : y = Pp.zero
        · obtain rfl : f3 = (4, 1) := by rw [HF3.out, hy0]; simp [divF, pfl, hx, okP_zero]
          obtain rfl : q = Pp.zero := by rw [HQ.out, hy0]; simp [divQ, divF, pfl, hx, okP_zero]
          obtain rfl : r = Pp.zero := by rw [HRr.out, hy0]; simp [divR, divF, pfl, hx, okP_zero]
          rw [hy0] at e6 e7
          simp only [Pp.zero] at e6 e7
          have HY0 : Hid (y = Pp.zero) := hy0
          clear HF3 HQ HRr hy0 HG1 HG2
          go_wp2_with fail
          refine wp_region_G (S20 w3.heap.size w7.heap.size) 12 (by kernel_rfl) (HMa.out.s20 HNa.out) (fun hHeld => ?_)
          refine wpAnyG_take (i := 0) (v := ?v0x7) rfl (by kernel_rfl) (fun _ _ _ h => h) (Or.inl ⟨by rfl, ?y0x7⟩) hHeld ?r0x7
          case y0x7 => (intro wS hSw; obtain ⟨s1, s2, s3, s4, s5, s6, s7, s8⟩ := hSw; go_simp; try with_reducible rfl)
          try simp only [Act.put, List.setIfInBounds_toArray, List.set_cons_zero, List.set_cons_succ]
          refine wpAnyG_one (i := 1) rfl (by kernel_rfl) (fun K hK => ?_)
          go_simp
          refine (F_any 4 1 _).mono ?_
          rintro e wb ⟨rfl, kb⟩
          have cb := ((Below.refl wa.heap.size wa).drew).trans kb
          have HMb := hid (HMa.out.below cb)
          have HNb := hid (HNa.out.below cb)
          clear hHeld
          have hHeld : S20 w3.heap.size w7.heap.size wb := HMb.out.s20 HNb.out
          refine hK.out _ _ hHeld ?_
          clear hK K
          try simp only [Act.put, List.setIfInBounds_toArray, List.set_cons_zero, List.set_cons_succ]
          refine wpAnyG_take (i := 2) (v := ?v2x8) rfl (by kernel_rfl) (fun _ _ _ h => h) (Or.inl ⟨by rfl, ?y2x8⟩) hHeld ?r2x8
          case y2x8 => (intro wS hSw; obtain ⟨s1, s2, s3, s4, s5, s6, s7, s8⟩ := hSw; go_simp; try with_reducible rfl)
          try simp only [Act.put, List.setIfInBounds_toArray, List.set_cons_zero, List.set_cons_succ]
          refine wpAnyG_take (i := 3) (v := ?v3x9) rfl (by kernel_rfl) (fun _ _ _ h => h) (Or.inl ⟨by rfl, ?y3x9⟩) hHeld ?r3x9
          case y3x9 => (intro wS hSw; obtain ⟨s1, s2, s3, s4, s5, s6, s7, s8⟩ := hSw; go_simp; try with_reducible rfl)
          try simp only [Act.put, List.setIfInBounds_toArray, List.set_cons_zero, List.set_cons_succ]
          refine wpAnyG_take (i := 4) (v := ?v4x10) rfl (by kernel_rfl) (fun _ _ _ h => h) (Or.inl ⟨by kernel_rfl, ?y4x10⟩) hHeld ?r4x10
          case y4x10 => (intro wS hSw; have s1 := hSw; go_simp; try with_reducible rfl)
          try simp only [Act.put, List.setIfInBounds_toArray, List.set_cons_zero, List.set_cons_succ]
          refine wpAnyG_take (i := 5) (v := ?v5x11) rfl (by kernel_rfl) (fun _ _ _ h => h) (Or.inl ⟨by kernel_rfl, ?y5x11⟩) hHeld ?r5x11
          case y5x11 => (intro wS hSw; have s1 := hSw; go_simp; try with_reducible rfl)
          try simp only [Act.put, List.setIfInBounds_toArray, List.set_cons_zero, List.set_cons_succ]
          refine wpAnyG_take (i := 6) (v := ?v6x12) rfl (by kernel_rfl) (fun _ _ _ h => h) (Or.inl ⟨by kernel_rfl, ?y6x12⟩) hHeld ?r6x12
          case y6x12 => (intro wS hSw; have s1 := hSw; go_simp; try with_reducible rfl)
          try simp only [Act.put, List.setIfInBounds_toArray, List.set_cons_zero, List.set_cons_succ]
          refine wpAnyG_take (i := 7) (v := ?v7x13) rfl (by kernel_rfl) (fun _ _ _ h => h) (Or.inl ⟨by rfl, ?y7x13⟩) hHeld ?r7x13
          case y7x13 => (intro wS hSw; obtain ⟨s1, s2, s3, s4, s5, s6, s7, s8⟩ := hSw; go_simp; try with_reducible rfl)
          try simp only [Act.put, List.setIfInBounds_toArray, List.set_cons_zero, List.set_cons_succ]
          refine wpAnyG_take (i := 8) (v := ?v8x14) rfl (by kernel_rfl) (fun _ _ _ h => h) (Or.inl ⟨by rfl, ?y8x14⟩) hHeld ?r8x14
          case y8x14 => (intro wS hSw; obtain ⟨s1, s2, s3, s4, s5, s6, s7, s8⟩ := hSw; go_simp; try with_reducible rfl)
          try simp only [Act.put, List.setIfInBounds_toArray, List.set_cons_zero, List.set_cons_succ]
          refine wpAnyG_take (i := 9) (v := ?v9x15) rfl (by kernel_rfl) (fun _ _ _ h => h) (Or.inl ⟨by kernel_rfl, ?y9x15⟩) hHeld ?r9x15
          case y9x15 => (intro wS hSw; have s1 := hSw; go_simp; try with_reducible rfl)
          try simp only [Act.put, List.setIfInBounds_toArray, List.set_cons_zero, List.set_cons_succ]
          refine wpAnyG_take (i := 10) (v := ?v10x16) rfl (by kernel_rfl) (fun _ _ _ h => h) (Or.inl ⟨by kernel_rfl, ?y10x16⟩) hHeld ?r10x16
          case y10x16 => (intro wS hSw; have s1 := hSw; go_simp; try with_reducible rfl)
          try simp only [Act.put, List.setIfInBounds_toArray, List.set_cons_zero, List.set_cons_succ]
          refine wpAnyG_take (i := 11) (v := ?v11x17) rfl (by kernel_rfl) (fun _ _ _ h => h) (Or.inl ⟨by kernel_rfl, ?y11x17⟩) hHeld ?r11x17
          case y11x17 => (intro wS hSw; have s1 := hSw; go_simp; try with_reducible rfl)
          try simp only [Act.put, List.setIfInBounds_toArray, List.set_cons_zero, List.set_cons_succ]
          refine wpAnyG_last (i := 12) rfl (by kernel_rfl) (by kernel_rfl) (fun K hK => ?_)
          go_simp
          refine hK.out _ _ ?_
          clear hK K
          try simp only [Act.put, List.setIfInBounds_toArray, List.set_cons_zero, List.set_cons_succ]
          refine wpAnyG_done (by kernel_rfl) ?_ _
          clear hHeld HMa HNa HNb cb kb
          go_wp2_with fail
          refine wp_region_G (S24 w.heap.size w4.heap.size T U u x y g) 11 (by kernel_rfl) HMb.out.s24 (fun hHeld => ?_)
          refine wpAnyG_take (i := 0) (v := ?v0x18) rfl (by kernel_rfl) (fun _ _ _ h => h) (Or.inl ⟨by rfl, ?y0x18⟩) hHeld ?r0x18
          case y0x18 => (intro wS hSw; obtain ⟨s1, s2, s3, s4, s5, s6, s7, s8, s9, s10, s11⟩ := hSw; go_simp; try with_reducible rfl)
          try simp only [Act.put, List.setIfInBounds_toArray, List.set_cons_zero, List.set_cons_succ]
          refine wpAnyG_take (i := 1) (v := ?v1x19) rfl (by kernel_rfl) (fun _ _ _ h => h) (Or.inl ⟨by rfl, ?y1x19⟩) hHeld ?r1x19
          case y1x19 => (intro wS hSw; obtain ⟨s1, s2, s3, s4, s5, s6, s7, s8, s9, s10, s11⟩ := hSw; go_simp; try with_reducible rfl)
          try simp only [Act.put, List.setIfInBounds_toArray, List.set_cons_zero, List.set_cons_succ]
          refine wpAnyG_take (i := 2) (v := ?v2x20) rfl (by kernel_rfl) (fun _ _ _ h => h) (Or.inl ⟨by rfl, ?y2x20⟩) hHeld ?r2x20
          case y2x20 => (intro wS hSw; obtain ⟨s1, s2, s3, s4, s5, s6, s7, s8, s9, s10, s11⟩ := hSw; go_simp; try with_reducible rfl)
          try simp only [Act.put, List.setIfInBounds_toArray, List.set_cons_zero, List.set_cons_succ]
          refine wpAnyG_take (i := 3) (v := ?v3x21) rfl (by kernel_rfl) (fun _ _ _ h => h) (Or.inl ⟨by rfl, ?y3x21⟩) hHeld ?r3x21
          case y3x21 => (intro wS hSw; obtain ⟨s1, s2, s3, s4, s5, s6, s7, s8, s9, s10, s11⟩ := hSw; go_simp; try with_reducible rfl)
          try simp only [Act.put, List.setIfInBounds_toArray, List.set_cons_zero, List.set_cons_succ]
          refine wpAnyG_take (i := 4) (v := ?v4x22) rfl (by kernel_rfl) (fun _ _ _ h => h) (Or.inl ⟨by kernel_rfl, ?y4x22⟩) hHeld ?r4x22
          case y4x22 => (intro wS hSw; have s1 := hSw; go_simp; try with_reducible rfl)
          try simp only [Act.put, List.setIfInBounds_toArray, List.set_cons_zero, List.set_cons_succ]
          refine wpAnyG_take (i := 5) (v := ?v5x23) rfl (by kernel_rfl) (fun _ _ _ h => h) (Or.inl ⟨by kernel_rfl, ?y5x23⟩) hHeld ?r5x23
          case y5x23 => (intro wS hSw; have s1 := hSw; go_simp; try with_reducible rfl)
          try simp only [Act.put, List.setIfInBounds_toArray, List.set_cons_zero, List.set_cons_succ]
          refine wpAnyG_take (i := 6) (v := ?v6x24) rfl (by kernel_rfl) (fun _ _ _ h => h) (Or.inl ⟨by kernel_rfl, ?y6x24⟩) hHeld ?r6x24
          case y6x24 => (intro wS hSw; have s1 := hSw; go_simp; try with_reducible rfl)
          try simp only [Act.put, List.setIfInBounds_toArray, List.set_cons_zero, List.set_cons_succ]
          refine wpAnyG_take (i := 7) (v := ?v7x25) rfl (by kernel_rfl) (fun _ _ _ h => h) (Or.inl ⟨by kernel_rfl, ?y7x25⟩) hHeld ?r7x25
          case y7x25 => (intro wS hSw; have s1 := hSw; go_simp; try with_reducible rfl)
          try simp only [Act.put, List.setIfInBounds_toArray, List.set_cons_zero, List.set_cons_succ]
          refine wpAnyG_one (i := 8) rfl (by kernel_rfl) (fun K hK => ?_)
          rw [if_pos (by kernel_rfl)]
          go_simp
          refine (HGr.out _).mono ?_
          rintro e wz ⟨k, rfl, hk1, hk2, kz⟩
          have hgk := great_one HT.out HG3.out.1 hk1 HG3.out.2 hk2
          subst hgk
          have cz := ((Below.refl wb.heap.size wb).drew).trans kz
          have HMz := hid (HMb.out.below cz)
          clear hHeld
          have hHeld : S24 w.heap.size w4.heap.size T U u x y g wz := HMz.out.s24
          refine hK.out _ _ hHeld ?_
          clear hK K
          try simp only [Act.put, List.setIfInBounds_toArray, List.set_cons_zero, List.set_cons_succ]
          refine wpAnyG_take (i := 9) (v := ?v9x26) rfl (by kernel_rfl) (fun _ _ _ h => h) (Or.inl ⟨by kernel_rfl, ?y9x26⟩) hHeld ?r9x26
          case y9x26 => (intro wS hSw; have s1 := hSw; go_simp; try with_reducible rfl)
          try simp only [Act.put, List.setIfInBounds_toArray, List.set_cons_zero, List.set_cons_succ]
          refine wpAnyG_take (i := 10) (v := ?v10x27) rfl (by kernel_rfl) (fun _ _ _ h => h) (Or.inl ⟨by rfl, ?y10x27⟩) hHeld ?r10x27
          case y10x27 => (intro wS hSw; obtain ⟨s1, s2, s3, s4, s5, s6, s7, s8, s9, s10, s11⟩ := hSw; go_simp; try with_reducible rfl)
          try simp only [Act.put, List.setIfInBounds_toArray, List.set_cons_zero, List.set_cons_succ]
          refine wpAnyG_last (i := 11) rfl (by kernel_rfl) (by kernel_rfl) (fun K hK => ?_)
          go_simp
          refine hK.out _ _ ?_
          clear hK K
          try simp only [Act.put, List.setIfInBounds_toArray, List.set_cons_zero, List.set_cons_succ]
          refine wpAnyG_done (by kernel_rfl) ?_ _
          go_wp2
          go_ret
          exact ⟨rfl, HMz.out.k⟩
        · have HY0 : Hid (y ≠ Pp.zero) := hy0
          have hyy : (y.a == 0) = false ∨ ((y.a == 0) = true ∧ (y.b == 0) = false) := by
            rcases Decidable.em (y.a = 0) with h | h
            · exact .inr ⟨beq_iff_eq.2 h, beq_eq_false_iff_ne.2 (fun k => hy0 (Pp.ext' h k))⟩
            · exact .inl (beq_eq_false_iff_ne.2 h)
          obtain rfl : f3 = (0, 0) := by rw [HF3.out]; simp [divF, pfl, hx, hy, hy0]
          have HQ2 : Hid (q = quo T x y) := by show _ = _; rw [HQ.out]; simp [divQ, divF, pfl, hx, hy, hy0]
          have HR2 : Hid (r = x.sub (q.mul T y)) := by show _ = _; rw [HRr.out, HQ2.out]; simp [divR, divF, pfl, hx, hy, hy0]
          have HQb : Hid (Qb T q y) := by rw [HQ2.out]; exact quo_bd HT.out HNX.out HNY.out HY0.out
          clear HF3 HQ HRr hy0 HG1 HG2
          rcases hyy with hyy | ⟨hyy, hyz⟩
          · skip
            go_wp2_with fail
            refine wp_region_G (S22 w.heap.size w3.heap.size T U u x y q r) 21 (by kernel_rfl) HMa.out.s22 (fun hHeld => ?_)
            refine wpAnyG_take (i := 0) (v := ?v0x28) rfl (by kernel_rfl) (fun _ _ _ h => h) (Or.inl ⟨by rfl, ?y0x28⟩) hHeld ?r0x28
            case y0x28 => (intro wS hSw; obtain ⟨s1, s2, s3, s4, s5, s6, s7, s8, s9, s10, s11, s12, s13⟩ := hSw; go_simp; try with_reducible rfl)
            try simp only [Act.put, List.setIfInBounds_toArray, List.set_cons_zero, List.set_cons_succ]
            refine wpAnyG_take (i := 1) (v := ?v1x29) rfl (by kernel_rfl) (fun _ _ _ h => h) (Or.inl ⟨by rfl, ?y1x29⟩) hHeld ?r1x29
            case y1x29 => (intro wS hSw; obtain ⟨s1, s2, s3, s4, s5, s6, s7, s8, s9, s10, s11, s12, s13⟩ := hSw; go_simp; try with_reducible rfl)
            try simp only [Act.put, List.setIfInBounds_toArray, List.set_cons_zero, List.set_cons_succ]
            refine wpAnyG_take (i := 2) (v := ?v2x30) rfl (by kernel_rfl) (fun _ _ _ h => h) (Or.inl ⟨by rfl, ?y2x30⟩) hHeld ?r2x30
            case y2x30 => (intro wS hSw; obtain ⟨s1, s2, s3, s4, s5, s6, s7, s8, s9, s10, s11, s12, s13⟩ := hSw; go_simp; try with_reducible rfl)
            try simp only [Act.put, List.setIfInBounds_toArray, List.set_cons_zero, List.set_cons_succ]
            refine wpAnyG_take (i := 3) (v := ?v3x31) rfl (by kernel_rfl) (fun _ _ _ h => h) (Or.inl ⟨by rfl, ?y3x31⟩) hHeld ?r3x31
            case y3x31 => (intro wS hSw; obtain ⟨s1, s2, s3, s4, s5, s6, s7, s8, s9, s10, s11, s12, s13⟩ := hSw; go_simp; try with_reducible rfl)
            try simp only [Act.put, List.setIfInBounds_toArray, List.set_cons_zero, List.set_cons_succ]
            refine wpAnyG_take (i := 4) (v := ?v4x32) rfl (by kernel_rfl) (fun _ _ _ h => h) (Or.inl ⟨by kernel_rfl, ?y4x32⟩) hHeld ?r4x32
            case y4x32 => (intro wS hSw; have s1 := hSw; go_simp; try with_reducible rfl)
            try simp only [Act.put, List.setIfInBounds_toArray, List.set_cons_zero, List.set_cons_succ]
            refine wpAnyG_take (i := 5) (v := ?v5x33) rfl (by kernel_rfl) (fun _ _ _ h => h) (Or.inl ⟨by kernel_rfl, ?y5x33⟩) hHeld ?r5x33
            case y5x33 => (intro wS hSw; have s1 := hSw; go_simp; try with_reducible rfl)
            try simp only [Act.put, List.setIfInBounds_toArray, List.set_cons_zero, List.set_cons_succ]
            refine wpAnyG_take (i := 6) (v := ?v6x34) rfl (by kernel_rfl) (fun _ _ _ h => h) (Or.inl ⟨by kernel_rfl, ?y6x34⟩) hHeld ?r6x34
            case y6x34 => (intro wS hSw; have s1 := hSw; go_simp; try with_reducible rfl)
            try simp only [Act.put, List.setIfInBounds_toArray, List.set_cons_zero, List.set_cons_succ]
            refine wpAnyG_take (i := 7) (v := ?v7x35) rfl (by kernel_rfl) (fun _ _ _ h => h) (Or.inl ⟨by kernel_rfl, ?y7x35⟩) hHeld ?r7x35
            case y7x35 => (intro wS hSw; have s1 := hSw; go_simp; try with_reducible rfl)
            try simp only [Act.put, List.setIfInBounds_toArray, List.set_cons_zero, List.set_cons_succ]
            refine wpAnyG_one (i := 8) rfl (by kernel_rfl) (fun K hK => ?_)
            rw [if_pos (by kernel_rfl)]
            go_simp
            refine (Quotient_any T U u x y _ HT.out HNX.out HNY.out HY0.out).mono ?_
            rw [← HQ2.out]
            rintro e wb ⟨rfl, kb⟩
            have cb := ((Below.refl wa.heap.size wa).drew).trans kb
            have HMb := hid (HMa.out.below cb)
            clear hHeld
            have hHeld : S22 w.heap.size w3.heap.size T U u x y q r wb := HMb.out.s22
            refine hK.out _ _ hHeld ?_
            clear hK K
            try simp only [Act.put, List.setIfInBounds_toArray, List.set_cons_zero, List.set_cons_succ]
            refine wpAnyG_take (i := 9) (v := ?v9x36) rfl (by kernel_rfl) (fun _ _ _ h => h) (Or.inl ⟨by kernel_rfl, ?y9x36⟩) hHeld ?r9x36
            case y9x36 => (intro wS hSw; have s1 := hSw; go_simp; try with_reducible rfl)
            try simp only [Act.put, List.setIfInBounds_toArray, List.set_cons_zero, List.set_cons_succ]
            refine wpAnyG_take (i := 10) (v := ?v10x37) rfl (by kernel_rfl) (fun _ _ _ h => h) (Or.inl ⟨by rfl, ?y10x37⟩) hHeld ?r10x37
            case y10x37 => (intro wS hSw; obtain ⟨s1, s2, s3, s4, s5, s6, s7, s8, s9, s10, s11, s12, s13⟩ := hSw; go_simp; try with_reducible rfl)
            try simp only [Act.put, List.setIfInBounds_toArray, List.set_cons_zero, List.set_cons_succ]
            refine wpAnyG_take (i := 11) (v := ?v11x38) rfl (by kernel_rfl) (fun _ _ _ h => h) (Or.inl ⟨by rfl, ?y11x38⟩) hHeld ?r11x38
            case y11x38 => (intro wS hSw; obtain ⟨s1, s2, s3, s4, s5, s6, s7, s8, s9, s10, s11, s12, s13⟩ := hSw; go_simp; try with_reducible rfl)
            try simp only [Act.put, List.setIfInBounds_toArray, List.set_cons_zero, List.set_cons_succ]
            refine wpAnyG_take (i := 12) (v := ?v12x39) rfl (by kernel_rfl) (fun _ _ _ h => h) (Or.inl ⟨by kernel_rfl, ?y12x39⟩) hHeld ?r12x39
            case y12x39 => (intro wS hSw; have s1 := hSw; go_simp; try with_reducible rfl)
            try simp only [Act.put, List.setIfInBounds_toArray, List.set_cons_zero, List.set_cons_succ]
            refine wpAnyG_take (i := 13) (v := ?v13x40) rfl (by kernel_rfl) (fun _ _ _ h => h) (Or.inl ⟨by kernel_rfl, ?y13x40⟩) hHeld ?r13x40
            case y13x40 => (intro wS hSw; have s1 := hSw; go_simp; try with_reducible rfl)
            try simp only [Act.put, List.setIfInBounds_toArray, List.set_cons_zero, List.set_cons_succ]
            refine wpAnyG_take (i := 14) (v := ?v14x41) rfl (by kernel_rfl) (fun _ _ _ h => h) (Or.inl ⟨by kernel_rfl, ?y14x41⟩) hHeld ?r14x41
            case y14x41 => (intro wS hSw; have s1 := hSw; go_simp; try with_reducible rfl)
            try simp only [Act.put, List.setIfInBounds_toArray, List.set_cons_zero, List.set_cons_succ]
            refine wpAnyG_take (i := 15) (v := ?v15x42) rfl (by kernel_rfl) (fun _ _ _ h => h) (Or.inl ⟨by kernel_rfl, ?y15x42⟩) hHeld ?r15x42
            case y15x42 => (intro wS hSw; have s1 := hSw; go_simp; try with_reducible rfl)
            try simp only [Act.put, List.setIfInBounds_toArray, List.set_cons_zero, List.set_cons_succ]
            refine wpAnyG_take (i := 16) (v := ?v16x43) rfl (by kernel_rfl) (fun _ _ _ h => h) (Or.inl ⟨by kernel_rfl, ?y16x43⟩) hHeld ?r16x43
            case y16x43 => (intro wS hSw; have s1 := hSw; go_simp; try with_reducible rfl)
            try simp only [Act.put, List.setIfInBounds_toArray, List.set_cons_zero, List.set_cons_succ]
            refine wpAnyG_take (i := 17) (v := ?v17x44) rfl (by kernel_rfl) (fun _ _ _ h => h) (Or.inl ⟨by kernel_rfl, ?y17x44⟩) hHeld ?r17x44
            case y17x44 => (intro wS hSw; have s1 := hSw; go_simp; try with_reducible rfl)
            try simp only [Act.put, List.setIfInBounds_toArray, List.set_cons_zero, List.set_cons_succ]
            refine wpAnyG_one (i := 18) rfl (by kernel_rfl) (fun K hK => ?_)
            rw [if_pos (by kernel_rfl)]
            go_simp
            refine (Times_any T U u q y _ (by have := HQb.out.h1; omega) (by have := HQb.out.h2; omega) (by have := HQb.out.h3; omega) (by have := HQb.out.h4; omega) (by have := HQb.out.h5; omega) (by have := HQb.out.h6; omega)).mono ?_
            rintro e wc ⟨rfl, kc⟩
            have HMc := hid (HMb.out.below kc)
            clear hHeld
            have hHeld : S22 w.heap.size w3.heap.size T U u x y q r wc := HMc.out.s22
            refine hK.out _ _ hHeld ?_
            clear hK K
            try simp only [Act.put, List.setIfInBounds_toArray, List.set_cons_zero, List.set_cons_succ]
            refine wpAnyG_one (i := 19) rfl (by kernel_rfl) (fun K hK => ?_)
            rw [if_pos (by kernel_rfl)]
            go_simp
            refine (Less_ring T U u x _ _ (bd_mono HXB.out (by omega)) HQb.out.mul).mono ?_
            rw [← HR2.out]
            rintro e wd ⟨rfl, kd⟩
            have HMd := hid (HMc.out.below kd)
            clear hHeld
            have hHeld : S22 w.heap.size w3.heap.size T U u x y q r wd := HMd.out.s22
            refine hK.out _ _ hHeld ?_
            clear hK K
            try simp only [Act.put, List.setIfInBounds_toArray, List.set_cons_zero, List.set_cons_succ]
            refine wpAnyG_take (i := 20) (v := ?v20x45) rfl (by kernel_rfl) (fun _ _ _ h => h) (Or.inl ⟨by kernel_rfl, ?y20x45⟩) hHeld ?r20x45
            case y20x45 => (intro wS hSw; have s1 := hSw; go_simp; try with_reducible rfl)
            try simp only [Act.put, List.setIfInBounds_toArray, List.set_cons_zero, List.set_cons_succ]
            refine wpAnyG_last (i := 21) rfl (by kernel_rfl) (by kernel_rfl) (fun K hK => ?_)
            go_simp
            refine hK.out _ _ ?_
            clear hK K
            try simp only [Act.put, List.setIfInBounds_toArray, List.set_cons_zero, List.set_cons_succ]
            refine wpAnyG_done (by kernel_rfl) ?_ _
            clear hHeld HMa HMb HMc cb kb kc kd
            go_wp2_with fail
            refine wp_region_G (S24 w.heap.size w4.heap.size T U u x y g) 11 (by kernel_rfl) HMd.out.s24 (fun hHeld => ?_)
            refine wpAnyG_take (i := 0) (v := ?v0x46) rfl (by kernel_rfl) (fun _ _ _ h => h) (Or.inl ⟨by rfl, ?y0x46⟩) hHeld ?r0x46
            case y0x46 => (intro wS hSw; obtain ⟨s1, s2, s3, s4, s5, s6, s7, s8, s9, s10, s11⟩ := hSw; go_simp; try with_reducible rfl)
            try simp only [Act.put, List.setIfInBounds_toArray, List.set_cons_zero, List.set_cons_succ]
            refine wpAnyG_take (i := 1) (v := ?v1x47) rfl (by kernel_rfl) (fun _ _ _ h => h) (Or.inl ⟨by rfl, ?y1x47⟩) hHeld ?r1x47
            case y1x47 => (intro wS hSw; obtain ⟨s1, s2, s3, s4, s5, s6, s7, s8, s9, s10, s11⟩ := hSw; go_simp; try with_reducible rfl)
            try simp only [Act.put, List.setIfInBounds_toArray, List.set_cons_zero, List.set_cons_succ]
            refine wpAnyG_take (i := 2) (v := ?v2x48) rfl (by kernel_rfl) (fun _ _ _ h => h) (Or.inl ⟨by rfl, ?y2x48⟩) hHeld ?r2x48
            case y2x48 => (intro wS hSw; obtain ⟨s1, s2, s3, s4, s5, s6, s7, s8, s9, s10, s11⟩ := hSw; go_simp; try with_reducible rfl)
            try simp only [Act.put, List.setIfInBounds_toArray, List.set_cons_zero, List.set_cons_succ]
            refine wpAnyG_take (i := 3) (v := ?v3x49) rfl (by kernel_rfl) (fun _ _ _ h => h) (Or.inl ⟨by rfl, ?y3x49⟩) hHeld ?r3x49
            case y3x49 => (intro wS hSw; obtain ⟨s1, s2, s3, s4, s5, s6, s7, s8, s9, s10, s11⟩ := hSw; go_simp; try with_reducible rfl)
            try simp only [Act.put, List.setIfInBounds_toArray, List.set_cons_zero, List.set_cons_succ]
            refine wpAnyG_take (i := 4) (v := ?v4x50) rfl (by kernel_rfl) (fun _ _ _ h => h) (Or.inl ⟨by kernel_rfl, ?y4x50⟩) hHeld ?r4x50
            case y4x50 => (intro wS hSw; have s1 := hSw; go_simp; try with_reducible rfl)
            try simp only [Act.put, List.setIfInBounds_toArray, List.set_cons_zero, List.set_cons_succ]
            refine wpAnyG_take (i := 5) (v := ?v5x51) rfl (by kernel_rfl) (fun _ _ _ h => h) (Or.inl ⟨by kernel_rfl, ?y5x51⟩) hHeld ?r5x51
            case y5x51 => (intro wS hSw; have s1 := hSw; go_simp; try with_reducible rfl)
            try simp only [Act.put, List.setIfInBounds_toArray, List.set_cons_zero, List.set_cons_succ]
            refine wpAnyG_take (i := 6) (v := ?v6x52) rfl (by kernel_rfl) (fun _ _ _ h => h) (Or.inl ⟨by kernel_rfl, ?y6x52⟩) hHeld ?r6x52
            case y6x52 => (intro wS hSw; have s1 := hSw; go_simp; try with_reducible rfl)
            try simp only [Act.put, List.setIfInBounds_toArray, List.set_cons_zero, List.set_cons_succ]
            refine wpAnyG_take (i := 7) (v := ?v7x53) rfl (by kernel_rfl) (fun _ _ _ h => h) (Or.inl ⟨by kernel_rfl, ?y7x53⟩) hHeld ?r7x53
            case y7x53 => (intro wS hSw; have s1 := hSw; go_simp; try with_reducible rfl)
            try simp only [Act.put, List.setIfInBounds_toArray, List.set_cons_zero, List.set_cons_succ]
            refine wpAnyG_one (i := 8) rfl (by kernel_rfl) (fun K hK => ?_)
            rw [if_pos (by kernel_rfl)]
            go_simp
            refine (HGr.out _).mono ?_
            rintro e wz ⟨k, rfl, hk1, hk2, kz⟩
            have hgk := great_one HT.out HG3.out.1 hk1 HG3.out.2 hk2
            subst hgk
            have cz := ((Below.refl wd.heap.size wd).drew).trans kz
            have HMz := hid (HMd.out.below cz)
            clear hHeld
            have hHeld : S24 w.heap.size w4.heap.size T U u x y g wz := HMz.out.s24
            refine hK.out _ _ hHeld ?_
            clear hK K
            try simp only [Act.put, List.setIfInBounds_toArray, List.set_cons_zero, List.set_cons_succ]
            refine wpAnyG_take (i := 9) (v := ?v9x54) rfl (by kernel_rfl) (fun _ _ _ h => h) (Or.inl ⟨by kernel_rfl, ?y9x54⟩) hHeld ?r9x54
            case y9x54 => (intro wS hSw; have s1 := hSw; go_simp; try with_reducible rfl)
            try simp only [Act.put, List.setIfInBounds_toArray, List.set_cons_zero, List.set_cons_succ]
            refine wpAnyG_take (i := 10) (v := ?v10x55) rfl (by kernel_rfl) (fun _ _ _ h => h) (Or.inl ⟨by rfl, ?y10x55⟩) hHeld ?r10x55
            case y10x55 => (intro wS hSw; obtain ⟨s1, s2, s3, s4, s5, s6, s7, s8, s9, s10, s11⟩ := hSw; go_simp; try with_reducible rfl)
            try simp only [Act.put, List.setIfInBounds_toArray, List.set_cons_zero, List.set_cons_succ]
            refine wpAnyG_last (i := 11) rfl (by kernel_rfl) (by kernel_rfl) (fun K hK => ?_)
            go_simp
            refine hK.out _ _ ?_
            clear hK K
            try simp only [Act.put, List.setIfInBounds_toArray, List.set_cons_zero, List.set_cons_succ]
            refine wpAnyG_done (by kernel_rfl) ?_ _
            go_wp2
            go_ret
            exact ⟨rfl, HMz.out.k⟩
          · skip
            go_wp2_with fail
            refine wp_region_G (S22 w.heap.size w3.heap.size T U u x y q r) 21 (by kernel_rfl) HMa.out.s22 (fun hHeld => ?_)
            refine wpAnyG_take (i := 0) (v := ?v0x56) rfl (by kernel_rfl) (fun _ _ _ h => h) (Or.inl ⟨by rfl, ?y0x56⟩) hHeld ?r0x56
            case y0x56 => (intro wS hSw; obtain ⟨s1, s2, s3, s4, s5, s6, s7, s8, s9, s10, s11, s12, s13⟩ := hSw; go_simp; try with_reducible rfl)
            try simp only [Act.put, List.setIfInBounds_toArray, List.set_cons_zero, List.set_cons_succ]
            refine wpAnyG_take (i := 1) (v := ?v1x57) rfl (by kernel_rfl) (fun _ _ _ h => h) (Or.inl ⟨by rfl, ?y1x57⟩) hHeld ?r1x57
            case y1x57 => (intro wS hSw; obtain ⟨s1, s2, s3, s4, s5, s6, s7, s8, s9, s10, s11, s12, s13⟩ := hSw; go_simp; try with_reducible rfl)
            try simp only [Act.put, List.setIfInBounds_toArray, List.set_cons_zero, List.set_cons_succ]
            refine wpAnyG_take (i := 2) (v := ?v2x58) rfl (by kernel_rfl) (fun _ _ _ h => h) (Or.inl ⟨by rfl, ?y2x58⟩) hHeld ?r2x58
            case y2x58 => (intro wS hSw; obtain ⟨s1, s2, s3, s4, s5, s6, s7, s8, s9, s10, s11, s12, s13⟩ := hSw; go_simp; try with_reducible rfl)
            try simp only [Act.put, List.setIfInBounds_toArray, List.set_cons_zero, List.set_cons_succ]
            refine wpAnyG_take (i := 3) (v := ?v3x59) rfl (by kernel_rfl) (fun _ _ _ h => h) (Or.inl ⟨by rfl, ?y3x59⟩) hHeld ?r3x59
            case y3x59 => (intro wS hSw; obtain ⟨s1, s2, s3, s4, s5, s6, s7, s8, s9, s10, s11, s12, s13⟩ := hSw; go_simp; try with_reducible rfl)
            try simp only [Act.put, List.setIfInBounds_toArray, List.set_cons_zero, List.set_cons_succ]
            refine wpAnyG_take (i := 4) (v := ?v4x60) rfl (by kernel_rfl) (fun _ _ _ h => h) (Or.inl ⟨by kernel_rfl, ?y4x60⟩) hHeld ?r4x60
            case y4x60 => (intro wS hSw; have s1 := hSw; go_simp; try with_reducible rfl)
            try simp only [Act.put, List.setIfInBounds_toArray, List.set_cons_zero, List.set_cons_succ]
            refine wpAnyG_take (i := 5) (v := ?v5x61) rfl (by kernel_rfl) (fun _ _ _ h => h) (Or.inl ⟨by kernel_rfl, ?y5x61⟩) hHeld ?r5x61
            case y5x61 => (intro wS hSw; have s1 := hSw; go_simp; try with_reducible rfl)
            try simp only [Act.put, List.setIfInBounds_toArray, List.set_cons_zero, List.set_cons_succ]
            refine wpAnyG_take (i := 6) (v := ?v6x62) rfl (by kernel_rfl) (fun _ _ _ h => h) (Or.inl ⟨by kernel_rfl, ?y6x62⟩) hHeld ?r6x62
            case y6x62 => (intro wS hSw; have s1 := hSw; go_simp; try with_reducible rfl)
            try simp only [Act.put, List.setIfInBounds_toArray, List.set_cons_zero, List.set_cons_succ]
            refine wpAnyG_take (i := 7) (v := ?v7x63) rfl (by kernel_rfl) (fun _ _ _ h => h) (Or.inl ⟨by kernel_rfl, ?y7x63⟩) hHeld ?r7x63
            case y7x63 => (intro wS hSw; have s1 := hSw; go_simp; try with_reducible rfl)
            try simp only [Act.put, List.setIfInBounds_toArray, List.set_cons_zero, List.set_cons_succ]
            refine wpAnyG_one (i := 8) rfl (by kernel_rfl) (fun K hK => ?_)
            rw [if_pos (by kernel_rfl)]
            go_simp
            refine (Quotient_any T U u x y _ HT.out HNX.out HNY.out HY0.out).mono ?_
            rw [← HQ2.out]
            rintro e wb ⟨rfl, kb⟩
            have cb := ((Below.refl wa.heap.size wa).drew).trans kb
            have HMb := hid (HMa.out.below cb)
            clear hHeld
            have hHeld : S22 w.heap.size w3.heap.size T U u x y q r wb := HMb.out.s22
            refine hK.out _ _ hHeld ?_
            clear hK K
            try simp only [Act.put, List.setIfInBounds_toArray, List.set_cons_zero, List.set_cons_succ]
            refine wpAnyG_take (i := 9) (v := ?v9x64) rfl (by kernel_rfl) (fun _ _ _ h => h) (Or.inl ⟨by kernel_rfl, ?y9x64⟩) hHeld ?r9x64
            case y9x64 => (intro wS hSw; have s1 := hSw; go_simp; try with_reducible rfl)
            try simp only [Act.put, List.setIfInBounds_toArray, List.set_cons_zero, List.set_cons_succ]
            refine wpAnyG_take (i := 10) (v := ?v10x65) rfl (by kernel_rfl) (fun _ _ _ h => h) (Or.inl ⟨by rfl, ?y10x65⟩) hHeld ?r10x65
            case y10x65 => (intro wS hSw; obtain ⟨s1, s2, s3, s4, s5, s6, s7, s8, s9, s10, s11, s12, s13⟩ := hSw; go_simp; try with_reducible rfl)
            try simp only [Act.put, List.setIfInBounds_toArray, List.set_cons_zero, List.set_cons_succ]
            refine wpAnyG_take (i := 11) (v := ?v11x66) rfl (by kernel_rfl) (fun _ _ _ h => h) (Or.inl ⟨by rfl, ?y11x66⟩) hHeld ?r11x66
            case y11x66 => (intro wS hSw; obtain ⟨s1, s2, s3, s4, s5, s6, s7, s8, s9, s10, s11, s12, s13⟩ := hSw; go_simp; try with_reducible rfl)
            try simp only [Act.put, List.setIfInBounds_toArray, List.set_cons_zero, List.set_cons_succ]
            refine wpAnyG_take (i := 12) (v := ?v12x67) rfl (by kernel_rfl) (fun _ _ _ h => h) (Or.inl ⟨by kernel_rfl, ?y12x67⟩) hHeld ?r12x67
            case y12x67 => (intro wS hSw; have s1 := hSw; go_simp; try with_reducible rfl)
            try simp only [Act.put, List.setIfInBounds_toArray, List.set_cons_zero, List.set_cons_succ]
            refine wpAnyG_take (i := 13) (v := ?v13x68) rfl (by kernel_rfl) (fun _ _ _ h => h) (Or.inl ⟨by kernel_rfl, ?y13x68⟩) hHeld ?r13x68
            case y13x68 => (intro wS hSw; have s1 := hSw; go_simp; try with_reducible rfl)
            try simp only [Act.put, List.setIfInBounds_toArray, List.set_cons_zero, List.set_cons_succ]
            refine wpAnyG_take (i := 14) (v := ?v14x69) rfl (by kernel_rfl) (fun _ _ _ h => h) (Or.inl ⟨by kernel_rfl, ?y14x69⟩) hHeld ?r14x69
            case y14x69 => (intro wS hSw; have s1 := hSw; go_simp; try with_reducible rfl)
            try simp only [Act.put, List.setIfInBounds_toArray, List.set_cons_zero, List.set_cons_succ]
            refine wpAnyG_take (i := 15) (v := ?v15x70) rfl (by kernel_rfl) (fun _ _ _ h => h) (Or.inl ⟨by kernel_rfl, ?y15x70⟩) hHeld ?r15x70
            case y15x70 => (intro wS hSw; have s1 := hSw; go_simp; try with_reducible rfl)
            try simp only [Act.put, List.setIfInBounds_toArray, List.set_cons_zero, List.set_cons_succ]
            refine wpAnyG_take (i := 16) (v := ?v16x71) rfl (by kernel_rfl) (fun _ _ _ h => h) (Or.inl ⟨by kernel_rfl, ?y16x71⟩) hHeld ?r16x71
            case y16x71 => (intro wS hSw; have s1 := hSw; go_simp; try with_reducible rfl)
            try simp only [Act.put, List.setIfInBounds_toArray, List.set_cons_zero, List.set_cons_succ]
            refine wpAnyG_take (i := 17) (v := ?v17x72) rfl (by kernel_rfl) (fun _ _ _ h => h) (Or.inl ⟨by kernel_rfl, ?y17x72⟩) hHeld ?r17x72
            case y17x72 => (intro wS hSw; have s1 := hSw; go_simp; try with_reducible rfl)
            try simp only [Act.put, List.setIfInBounds_toArray, List.set_cons_zero, List.set_cons_succ]
            refine wpAnyG_one (i := 18) rfl (by kernel_rfl) (fun K hK => ?_)
            rw [if_pos (by kernel_rfl)]
            go_simp
            refine (Times_any T U u q y _ (by have := HQb.out.h1; omega) (by have := HQb.out.h2; omega) (by have := HQb.out.h3; omega) (by have := HQb.out.h4; omega) (by have := HQb.out.h5; omega) (by have := HQb.out.h6; omega)).mono ?_
            rintro e wc ⟨rfl, kc⟩
            have HMc := hid (HMb.out.below kc)
            clear hHeld
            have hHeld : S22 w.heap.size w3.heap.size T U u x y q r wc := HMc.out.s22
            refine hK.out _ _ hHeld ?_
            clear hK K
            try simp only [Act.put, List.setIfInBounds_toArray, List.set_cons_zero, List.set_cons_succ]
            refine wpAnyG_one (i := 19) rfl (by kernel_rfl) (fun K hK => ?_)
            rw [if_pos (by kernel_rfl)]
            go_simp
            refine (Less_ring T U u x _ _ (bd_mono HXB.out (by omega)) HQb.out.mul).mono ?_
            rw [← HR2.out]
            rintro e wd ⟨rfl, kd⟩
            have HMd := hid (HMc.out.below kd)
            clear hHeld
            have hHeld : S22 w.heap.size w3.heap.size T U u x y q r wd := HMd.out.s22
            refine hK.out _ _ hHeld ?_
            clear hK K
            try simp only [Act.put, List.setIfInBounds_toArray, List.set_cons_zero, List.set_cons_succ]
            refine wpAnyG_take (i := 20) (v := ?v20x73) rfl (by kernel_rfl) (fun _ _ _ h => h) (Or.inl ⟨by kernel_rfl, ?y20x73⟩) hHeld ?r20x73
            case y20x73 => (intro wS hSw; have s1 := hSw; go_simp; try with_reducible rfl)
            try simp only [Act.put, List.setIfInBounds_toArray, List.set_cons_zero, List.set_cons_succ]
            refine wpAnyG_last (i := 21) rfl (by kernel_rfl) (by kernel_rfl) (fun K hK => ?_)
            go_simp
            refine hK.out _ _ ?_
            clear hK K
            try simp only [Act.put, List.setIfInBounds_toArray, List.set_cons_zero, List.set_cons_succ]
            refine wpAnyG_done (by kernel_rfl) ?_ _
            clear hHeld HMa HMb HMc cb kb kc kd
            go_wp2_with fail
            refine wp_region_G (S24 w.heap.size w4.heap.size T U u x y g) 11 (by kernel_rfl) HMd.out.s24 (fun hHeld => ?_)
            refine wpAnyG_take (i := 0) (v := ?v0x74) rfl (by kernel_rfl) (fun _ _ _ h => h) (Or.inl ⟨by rfl, ?y0x74⟩) hHeld ?r0x74
            case y0x74 => (intro wS hSw; obtain ⟨s1, s2, s3, s4, s5, s6, s7, s8, s9, s10, s11⟩ := hSw; go_simp; try with_reducible rfl)
            try simp only [Act.put, List.setIfInBounds_toArray, List.set_cons_zero, List.set_cons_succ]
            refine wpAnyG_take (i := 1) (v := ?v1x75) rfl (by kernel_rfl) (fun _ _ _ h => h) (Or.inl ⟨by rfl, ?y1x75⟩) hHeld ?r1x75
            case y1x75 => (intro wS hSw; obtain ⟨s1, s2, s3, s4, s5, s6, s7, s8, s9, s10, s11⟩ := hSw; go_simp; try with_reducible rfl)
            try simp only [Act.put, List.setIfInBounds_toArray, List.set_cons_zero, List.set_cons_succ]
            refine wpAnyG_take (i := 2) (v := ?v2x76) rfl (by kernel_rfl) (fun _ _ _ h => h) (Or.inl ⟨by rfl, ?y2x76⟩) hHeld ?r2x76
            case y2x76 => (intro wS hSw; obtain ⟨s1, s2, s3, s4, s5, s6, s7, s8, s9, s10, s11⟩ := hSw; go_simp; try with_reducible rfl)
            try simp only [Act.put, List.setIfInBounds_toArray, List.set_cons_zero, List.set_cons_succ]
            refine wpAnyG_take (i := 3) (v := ?v3x77) rfl (by kernel_rfl) (fun _ _ _ h => h) (Or.inl ⟨by rfl, ?y3x77⟩) hHeld ?r3x77
            case y3x77 => (intro wS hSw; obtain ⟨s1, s2, s3, s4, s5, s6, s7, s8, s9, s10, s11⟩ := hSw; go_simp; try with_reducible rfl)
            try simp only [Act.put, List.setIfInBounds_toArray, List.set_cons_zero, List.set_cons_succ]
            refine wpAnyG_take (i := 4) (v := ?v4x78) rfl (by kernel_rfl) (fun _ _ _ h => h) (Or.inl ⟨by kernel_rfl, ?y4x78⟩) hHeld ?r4x78
            case y4x78 => (intro wS hSw; have s1 := hSw; go_simp; try with_reducible rfl)
            try simp only [Act.put, List.setIfInBounds_toArray, List.set_cons_zero, List.set_cons_succ]
            refine wpAnyG_take (i := 5) (v := ?v5x79) rfl (by kernel_rfl) (fun _ _ _ h => h) (Or.inl ⟨by kernel_rfl, ?y5x79⟩) hHeld ?r5x79
            case y5x79 => (intro wS hSw; have s1 := hSw; go_simp; try with_reducible rfl)
            try simp only [Act.put, List.setIfInBounds_toArray, List.set_cons_zero, List.set_cons_succ]
            refine wpAnyG_take (i := 6) (v := ?v6x80) rfl (by kernel_rfl) (fun _ _ _ h => h) (Or.inl ⟨by kernel_rfl, ?y6x80⟩) hHeld ?r6x80
            case y6x80 => (intro wS hSw; have s1 := hSw; go_simp; try with_reducible rfl)
            try simp only [Act.put, List.setIfInBounds_toArray, List.set_cons_zero, List.set_cons_succ]
            refine wpAnyG_take (i := 7) (v := ?v7x81) rfl (by kernel_rfl) (fun _ _ _ h => h) (Or.inl ⟨by kernel_rfl, ?y7x81⟩) hHeld ?r7x81
            case y7x81 => (intro wS hSw; have s1 := hSw; go_simp; try with_reducible rfl)
            try simp only [Act.put, List.setIfInBounds_toArray, List.set_cons_zero, List.set_cons_succ]
            refine wpAnyG_one (i := 8) rfl (by kernel_rfl) (fun K hK => ?_)
            rw [if_pos (by kernel_rfl)]
            go_simp
            refine (HGr.out _).mono ?_
            rintro e wz ⟨k, rfl, hk1, hk2, kz⟩
            have hgk := great_one HT.out HG3.out.1 hk1 HG3.out.2 hk2
            subst hgk
            have cz := ((Below.refl wd.heap.size wd).drew).trans kz
            have HMz := hid (HMd.out.below cz)
            clear hHeld
            have hHeld : S24 w.heap.size w4.heap.size T U u x y g wz := HMz.out.s24
            refine hK.out _ _ hHeld ?_
            clear hK K
            try simp only [Act.put, List.setIfInBounds_toArray, List.set_cons_zero, List.set_cons_succ]
            refine wpAnyG_take (i := 9) (v := ?v9x82) rfl (by kernel_rfl) (fun _ _ _ h => h) (Or.inl ⟨by kernel_rfl, ?y9x82⟩) hHeld ?r9x82
            case y9x82 => (intro wS hSw; have s1 := hSw; go_simp; try with_reducible rfl)
            try simp only [Act.put, List.setIfInBounds_toArray, List.set_cons_zero, List.set_cons_succ]
            refine wpAnyG_take (i := 10) (v := ?v10x83) rfl (by kernel_rfl) (fun _ _ _ h => h) (Or.inl ⟨by rfl, ?y10x83⟩) hHeld ?r10x83
            case y10x83 => (intro wS hSw; obtain ⟨s1, s2, s3, s4, s5, s6, s7, s8, s9, s10, s11⟩ := hSw; go_simp; try with_reducible rfl)
            try simp only [Act.put, List.setIfInBounds_toArray, List.set_cons_zero, List.set_cons_succ]
            refine wpAnyG_last (i := 11) rfl (by kernel_rfl) (by kernel_rfl) (fun K hK => ?_)
            go_simp
            refine hK.out _ _ ?_
            clear hK K
            try simp only [Act.put, List.setIfInBounds_toArray, List.set_cons_zero, List.set_cons_succ]
            refine wpAnyG_done (by kernel_rfl) ?_ _
            go_wp2
            go_ret
            exact ⟨rfl, HMz.out.k⟩
      · obtain rfl : d = (0, 0) := by rw [HD.out]; simp [pfl, hzk]
        obtain rfl : f2 = (0, 0) := by rw [HF2.out]; simp [mulF, pfl, hx, hy, ← HZ.out, hzk]
        obtain rfl : p = z := by rw [HP.out, HZ.out]; simp [mulV, mulF, pfl, hx, hy, ← HZ.out, hzk]
        clear HD HF2 HP
        have e0 := HM10.out.f2.c0
        have e1 := HM10.out.f2.c1
        have e2 := HM10.out.p.c0
        have e3 := HM10.out.p.c1
        have e4 := HZ10.out.c0
        have e5 := HZ10.out.c1
        have hfield := field_fault w10 0 0
        obtain ⟨wa, hwa⟩ : ∃ wa, wa = w10 := ⟨_, rfl⟩
        subst hwa
        have HMa := HM10
        have HNa := HN10
        clear HM10 HN10 HZ10
        have e6 := HMa.out.y.c0
        have e7 := HMa.out.y.c1
        have e8 := HNa.out.c0
        have e9 := HNa.out.c1
        have HNX : Hid (Nb T x) := Nb.of HT.out HXB.out
        have HNY : Hid (Nb T y) := Nb.of HT.out HYB.out
        have HG3 : Hid (Gd T x y g ∧ (IsCh T g ∨ g = Pp.zero)) := HG2.out (by first | rfl | trivial)
        have HGr : Hid (∀ w, Calls Tryz.prog 24 #[rv T U u, pv x, pv y] w fun e w' => ∃ k, e = .returned (pv k) ∧ Gd T x y k ∧ (IsCh T k ∨ k = Pp.zero) ∧ Below w.heap.size w w') := by
          rw [HU.out, Hu.out]; exact fun w => Greatest_any T x y w HT.out HNX.out HNY.out
        by_cases hy0 : y = Pp.zero
        · obtain rfl : f3 = (4, 1) := by rw [HF3.out, hy0]; simp [divF, pfl, hx, okP_zero]
          obtain rfl : q = Pp.zero := by rw [HQ.out, hy0]; simp [divQ, divF, pfl, hx, okP_zero]
          obtain rfl : r = Pp.zero := by rw [HRr.out, hy0]; simp [divR, divF, pfl, hx, okP_zero]
          rw [hy0] at e6 e7
          simp only [Pp.zero] at e6 e7
          have HY0 : Hid (y = Pp.zero) := hy0
          clear HF3 HQ HRr hy0 HG1 HG2
          go_wp2_with fail
          refine wp_region_G (S20 w3.heap.size w7.heap.size) 12 (by kernel_rfl) (HMa.out.s20 HNa.out) (fun hHeld => ?_)
          refine wpAnyG_take (i := 0) (v := ?v0x84) rfl (by kernel_rfl) (fun _ _ _ h => h) (Or.inl ⟨by rfl, ?y0x84⟩) hHeld ?r0x84
          case y0x84 => (intro wS hSw; obtain ⟨s1, s2, s3, s4, s5, s6, s7, s8⟩ := hSw; go_simp; try with_reducible rfl)
          try simp only [Act.put, List.setIfInBounds_toArray, List.set_cons_zero, List.set_cons_succ]
          refine wpAnyG_one (i := 1) rfl (by kernel_rfl) (fun K hK => ?_)
          go_simp
          refine (F_any 4 1 _).mono ?_
          rintro e wb ⟨rfl, kb⟩
          have cb := ((Below.refl wa.heap.size wa).drew).trans kb
          have HMb := hid (HMa.out.below cb)
          have HNb := hid (HNa.out.below cb)
          clear hHeld
          have hHeld : S20 w3.heap.size w7.heap.size wb := HMb.out.s20 HNb.out
          refine hK.out _ _ hHeld ?_
          clear hK K
          try simp only [Act.put, List.setIfInBounds_toArray, List.set_cons_zero, List.set_cons_succ]
          refine wpAnyG_take (i := 2) (v := ?v2x85) rfl (by kernel_rfl) (fun _ _ _ h => h) (Or.inl ⟨by rfl, ?y2x85⟩) hHeld ?r2x85
          case y2x85 => (intro wS hSw; obtain ⟨s1, s2, s3, s4, s5, s6, s7, s8⟩ := hSw; go_simp; try with_reducible rfl)
          try simp only [Act.put, List.setIfInBounds_toArray, List.set_cons_zero, List.set_cons_succ]
          refine wpAnyG_take (i := 3) (v := ?v3x86) rfl (by kernel_rfl) (fun _ _ _ h => h) (Or.inl ⟨by rfl, ?y3x86⟩) hHeld ?r3x86
          case y3x86 => (intro wS hSw; obtain ⟨s1, s2, s3, s4, s5, s6, s7, s8⟩ := hSw; go_simp; try with_reducible rfl)
          try simp only [Act.put, List.setIfInBounds_toArray, List.set_cons_zero, List.set_cons_succ]
          refine wpAnyG_take (i := 4) (v := ?v4x87) rfl (by kernel_rfl) (fun _ _ _ h => h) (Or.inl ⟨by kernel_rfl, ?y4x87⟩) hHeld ?r4x87
          case y4x87 => (intro wS hSw; have s1 := hSw; go_simp; try with_reducible rfl)
          try simp only [Act.put, List.setIfInBounds_toArray, List.set_cons_zero, List.set_cons_succ]
          refine wpAnyG_take (i := 5) (v := ?v5x88) rfl (by kernel_rfl) (fun _ _ _ h => h) (Or.inl ⟨by kernel_rfl, ?y5x88⟩) hHeld ?r5x88
          case y5x88 => (intro wS hSw; have s1 := hSw; go_simp; try with_reducible rfl)
          try simp only [Act.put, List.setIfInBounds_toArray, List.set_cons_zero, List.set_cons_succ]
          refine wpAnyG_take (i := 6) (v := ?v6x89) rfl (by kernel_rfl) (fun _ _ _ h => h) (Or.inl ⟨by kernel_rfl, ?y6x89⟩) hHeld ?r6x89
          case y6x89 => (intro wS hSw; have s1 := hSw; go_simp; try with_reducible rfl)
          try simp only [Act.put, List.setIfInBounds_toArray, List.set_cons_zero, List.set_cons_succ]
          refine wpAnyG_take (i := 7) (v := ?v7x90) rfl (by kernel_rfl) (fun _ _ _ h => h) (Or.inl ⟨by rfl, ?y7x90⟩) hHeld ?r7x90
          case y7x90 => (intro wS hSw; obtain ⟨s1, s2, s3, s4, s5, s6, s7, s8⟩ := hSw; go_simp; try with_reducible rfl)
          try simp only [Act.put, List.setIfInBounds_toArray, List.set_cons_zero, List.set_cons_succ]
          refine wpAnyG_take (i := 8) (v := ?v8x91) rfl (by kernel_rfl) (fun _ _ _ h => h) (Or.inl ⟨by rfl, ?y8x91⟩) hHeld ?r8x91
          case y8x91 => (intro wS hSw; obtain ⟨s1, s2, s3, s4, s5, s6, s7, s8⟩ := hSw; go_simp; try with_reducible rfl)
          try simp only [Act.put, List.setIfInBounds_toArray, List.set_cons_zero, List.set_cons_succ]
          refine wpAnyG_take (i := 9) (v := ?v9x92) rfl (by kernel_rfl) (fun _ _ _ h => h) (Or.inl ⟨by kernel_rfl, ?y9x92⟩) hHeld ?r9x92
          case y9x92 => (intro wS hSw; have s1 := hSw; go_simp; try with_reducible rfl)
          try simp only [Act.put, List.setIfInBounds_toArray, List.set_cons_zero, List.set_cons_succ]
          refine wpAnyG_take (i := 10) (v := ?v10x93) rfl (by kernel_rfl) (fun _ _ _ h => h) (Or.inl ⟨by kernel_rfl, ?y10x93⟩) hHeld ?r10x93
          case y10x93 => (intro wS hSw; have s1 := hSw; go_simp; try with_reducible rfl)
          try simp only [Act.put, List.setIfInBounds_toArray, List.set_cons_zero, List.set_cons_succ]
          refine wpAnyG_take (i := 11) (v := ?v11x94) rfl (by kernel_rfl) (fun _ _ _ h => h) (Or.inl ⟨by kernel_rfl, ?y11x94⟩) hHeld ?r11x94
          case y11x94 => (intro wS hSw; have s1 := hSw; go_simp; try with_reducible rfl)
          try simp only [Act.put, List.setIfInBounds_toArray, List.set_cons_zero, List.set_cons_succ]
          refine wpAnyG_last (i := 12) rfl (by kernel_rfl) (by kernel_rfl) (fun K hK => ?_)
          go_simp
          refine hK.out _ _ ?_
          clear hK K
          try simp only [Act.put, List.setIfInBounds_toArray, List.set_cons_zero, List.set_cons_succ]
          refine wpAnyG_done (by kernel_rfl) ?_ _
          clear hHeld HMa HNa HNb cb kb
          go_wp2_with fail
          refine wp_region_G (S24 w.heap.size w4.heap.size T U u x y g) 11 (by kernel_rfl) HMb.out.s24 (fun hHeld => ?_)
          refine wpAnyG_take (i := 0) (v := ?v0x95) rfl (by kernel_rfl) (fun _ _ _ h => h) (Or.inl ⟨by rfl, ?y0x95⟩) hHeld ?r0x95
          case y0x95 => (intro wS hSw; obtain ⟨s1, s2, s3, s4, s5, s6, s7, s8, s9, s10, s11⟩ := hSw; go_simp; try with_reducible rfl)
          try simp only [Act.put, List.setIfInBounds_toArray, List.set_cons_zero, List.set_cons_succ]
          refine wpAnyG_take (i := 1) (v := ?v1x96) rfl (by kernel_rfl) (fun _ _ _ h => h) (Or.inl ⟨by rfl, ?y1x96⟩) hHeld ?r1x96
          case y1x96 => (intro wS hSw; obtain ⟨s1, s2, s3, s4, s5, s6, s7, s8, s9, s10, s11⟩ := hSw; go_simp; try with_reducible rfl)
          try simp only [Act.put, List.setIfInBounds_toArray, List.set_cons_zero, List.set_cons_succ]
          refine wpAnyG_take (i := 2) (v := ?v2x97) rfl (by kernel_rfl) (fun _ _ _ h => h) (Or.inl ⟨by rfl, ?y2x97⟩) hHeld ?r2x97
          case y2x97 => (intro wS hSw; obtain ⟨s1, s2, s3, s4, s5, s6, s7, s8, s9, s10, s11⟩ := hSw; go_simp; try with_reducible rfl)
          try simp only [Act.put, List.setIfInBounds_toArray, List.set_cons_zero, List.set_cons_succ]
          refine wpAnyG_take (i := 3) (v := ?v3x98) rfl (by kernel_rfl) (fun _ _ _ h => h) (Or.inl ⟨by rfl, ?y3x98⟩) hHeld ?r3x98
          case y3x98 => (intro wS hSw; obtain ⟨s1, s2, s3, s4, s5, s6, s7, s8, s9, s10, s11⟩ := hSw; go_simp; try with_reducible rfl)
          try simp only [Act.put, List.setIfInBounds_toArray, List.set_cons_zero, List.set_cons_succ]
          refine wpAnyG_take (i := 4) (v := ?v4x99) rfl (by kernel_rfl) (fun _ _ _ h => h) (Or.inl ⟨by kernel_rfl, ?y4x99⟩) hHeld ?r4x99
          case y4x99 => (intro wS hSw; have s1 := hSw; go_simp; try with_reducible rfl)
          try simp only [Act.put, List.setIfInBounds_toArray, List.set_cons_zero, List.set_cons_succ]
          refine wpAnyG_take (i := 5) (v := ?v5x100) rfl (by kernel_rfl) (fun _ _ _ h => h) (Or.inl ⟨by kernel_rfl, ?y5x100⟩) hHeld ?r5x100
          case y5x100 => (intro wS hSw; have s1 := hSw; go_simp; try with_reducible rfl)
          try simp only [Act.put, List.setIfInBounds_toArray, List.set_cons_zero, List.set_cons_succ]
          refine wpAnyG_take (i := 6) (v := ?v6x101) rfl (by kernel_rfl) (fun _ _ _ h => h) (Or.inl ⟨by kernel_rfl, ?y6x101⟩) hHeld ?r6x101
          case y6x101 => (intro wS hSw; have s1 := hSw; go_simp; try with_reducible rfl)
          try simp only [Act.put, List.setIfInBounds_toArray, List.set_cons_zero, List.set_cons_succ]
          refine wpAnyG_take (i := 7) (v := ?v7x102) rfl (by kernel_rfl) (fun _ _ _ h => h) (Or.inl ⟨by kernel_rfl, ?y7x102⟩) hHeld ?r7x102
          case y7x102 => (intro wS hSw; have s1 := hSw; go_simp; try with_reducible rfl)
          try simp only [Act.put, List.setIfInBounds_toArray, List.set_cons_zero, List.set_cons_succ]
          refine wpAnyG_one (i := 8) rfl (by kernel_rfl) (fun K hK => ?_)
          rw [if_pos (by kernel_rfl)]
          go_simp
          refine (HGr.out _).mono ?_
          rintro e wz ⟨k, rfl, hk1, hk2, kz⟩
          have hgk := great_one HT.out HG3.out.1 hk1 HG3.out.2 hk2
          subst hgk
          have cz := ((Below.refl wb.heap.size wb).drew).trans kz
          have HMz := hid (HMb.out.below cz)
          clear hHeld
          have hHeld : S24 w.heap.size w4.heap.size T U u x y g wz := HMz.out.s24
          refine hK.out _ _ hHeld ?_
          clear hK K
          try simp only [Act.put, List.setIfInBounds_toArray, List.set_cons_zero, List.set_cons_succ]
          refine wpAnyG_take (i := 9) (v := ?v9x103) rfl (by kernel_rfl) (fun _ _ _ h => h) (Or.inl ⟨by kernel_rfl, ?y9x103⟩) hHeld ?r9x103
          case y9x103 => (intro wS hSw; have s1 := hSw; go_simp; try with_reducible rfl)
          try simp only [Act.put, List.setIfInBounds_toArray, List.set_cons_zero, List.set_cons_succ]
          refine wpAnyG_take (i := 10) (v := ?v10x104) rfl (by kernel_rfl) (fun _ _ _ h => h) (Or.inl ⟨by rfl, ?y10x104⟩) hHeld ?r10x104
          case y10x104 => (intro wS hSw; obtain ⟨s1, s2, s3, s4, s5, s6, s7, s8, s9, s10, s11⟩ := hSw; go_simp; try with_reducible rfl)
          try simp only [Act.put, List.setIfInBounds_toArray, List.set_cons_zero, List.set_cons_succ]
          refine wpAnyG_last (i := 11) rfl (by kernel_rfl) (by kernel_rfl) (fun K hK => ?_)
          go_simp
          refine hK.out _ _ ?_
          clear hK K
          try simp only [Act.put, List.setIfInBounds_toArray, List.set_cons_zero, List.set_cons_succ]
          refine wpAnyG_done (by kernel_rfl) ?_ _
          go_wp2
          go_ret
          exact ⟨rfl, HMz.out.k⟩
        · have HY0 : Hid (y ≠ Pp.zero) := hy0
          have hyy : (y.a == 0) = false ∨ ((y.a == 0) = true ∧ (y.b == 0) = false) := by
            rcases Decidable.em (y.a = 0) with h | h
            · exact .inr ⟨beq_iff_eq.2 h, beq_eq_false_iff_ne.2 (fun k => hy0 (Pp.ext' h k))⟩
            · exact .inl (beq_eq_false_iff_ne.2 h)
          obtain rfl : f3 = (0, 0) := by rw [HF3.out]; simp [divF, pfl, hx, hy, hy0]
          have HQ2 : Hid (q = quo T x y) := by show _ = _; rw [HQ.out]; simp [divQ, divF, pfl, hx, hy, hy0]
          have HR2 : Hid (r = x.sub (q.mul T y)) := by show _ = _; rw [HRr.out, HQ2.out]; simp [divR, divF, pfl, hx, hy, hy0]
          have HQb : Hid (Qb T q y) := by rw [HQ2.out]; exact quo_bd HT.out HNX.out HNY.out HY0.out
          clear HF3 HQ HRr hy0 HG1 HG2
          rcases hyy with hyy | ⟨hyy, hyz⟩
          · skip
            go_wp2_with fail
            refine wp_region_G (S22 w.heap.size w3.heap.size T U u x y q r) 21 (by kernel_rfl) HMa.out.s22 (fun hHeld => ?_)
            refine wpAnyG_take (i := 0) (v := ?v0x105) rfl (by kernel_rfl) (fun _ _ _ h => h) (Or.inl ⟨by rfl, ?y0x105⟩) hHeld ?r0x105
            case y0x105 => (intro wS hSw; obtain ⟨s1, s2, s3, s4, s5, s6, s7, s8, s9, s10, s11, s12, s13⟩ := hSw; go_simp; try with_reducible rfl)
            try simp only [Act.put, List.setIfInBounds_toArray, List.set_cons_zero, List.set_cons_succ]
            refine wpAnyG_take (i := 1) (v := ?v1x106) rfl (by kernel_rfl) (fun _ _ _ h => h) (Or.inl ⟨by rfl, ?y1x106⟩) hHeld ?r1x106
            case y1x106 => (intro wS hSw; obtain ⟨s1, s2, s3, s4, s5, s6, s7, s8, s9, s10, s11, s12, s13⟩ := hSw; go_simp; try with_reducible rfl)
            try simp only [Act.put, List.setIfInBounds_toArray, List.set_cons_zero, List.set_cons_succ]
            refine wpAnyG_take (i := 2) (v := ?v2x107) rfl (by kernel_rfl) (fun _ _ _ h => h) (Or.inl ⟨by rfl, ?y2x107⟩) hHeld ?r2x107
            case y2x107 => (intro wS hSw; obtain ⟨s1, s2, s3, s4, s5, s6, s7, s8, s9, s10, s11, s12, s13⟩ := hSw; go_simp; try with_reducible rfl)
            try simp only [Act.put, List.setIfInBounds_toArray, List.set_cons_zero, List.set_cons_succ]
            refine wpAnyG_take (i := 3) (v := ?v3x108) rfl (by kernel_rfl) (fun _ _ _ h => h) (Or.inl ⟨by rfl, ?y3x108⟩) hHeld ?r3x108
            case y3x108 => (intro wS hSw; obtain ⟨s1, s2, s3, s4, s5, s6, s7, s8, s9, s10, s11, s12, s13⟩ := hSw; go_simp; try with_reducible rfl)
            try simp only [Act.put, List.setIfInBounds_toArray, List.set_cons_zero, List.set_cons_succ]
            refine wpAnyG_take (i := 4) (v := ?v4x109) rfl (by kernel_rfl) (fun _ _ _ h => h) (Or.inl ⟨by kernel_rfl, ?y4x109⟩) hHeld ?r4x109
            case y4x109 => (intro wS hSw; have s1 := hSw; go_simp; try with_reducible rfl)
            try simp only [Act.put, List.setIfInBounds_toArray, List.set_cons_zero, List.set_cons_succ]
            refine wpAnyG_take (i := 5) (v := ?v5x110) rfl (by kernel_rfl) (fun _ _ _ h => h) (Or.inl ⟨by kernel_rfl, ?y5x110⟩) hHeld ?r5x110
            case y5x110 => (intro wS hSw; have s1 := hSw; go_simp; try with_reducible rfl)
            try simp only [Act.put, List.setIfInBounds_toArray, List.set_cons_zero, List.set_cons_succ]
            refine wpAnyG_take (i := 6) (v := ?v6x111) rfl (by kernel_rfl) (fun _ _ _ h => h) (Or.inl ⟨by kernel_rfl, ?y6x111⟩) hHeld ?r6x111
            case y6x111 => (intro wS hSw; have s1 := hSw; go_simp; try with_reducible rfl)
            try simp only [Act.put, List.setIfInBounds_toArray, List.set_cons_zero, List.set_cons_succ]
            refine wpAnyG_take (i := 7) (v := ?v7x112) rfl (by kernel_rfl) (fun _ _ _ h => h) (Or.inl ⟨by kernel_rfl, ?y7x112⟩) hHeld ?r7x112
            case y7x112 => (intro wS hSw; have s1 := hSw; go_simp; try with_reducible rfl)
            try simp only [Act.put, List.setIfInBounds_toArray, List.set_cons_zero, List.set_cons_succ]
            refine wpAnyG_one (i := 8) rfl (by kernel_rfl) (fun K hK => ?_)
            rw [if_pos (by kernel_rfl)]
            go_simp
            refine (Quotient_any T U u x y _ HT.out HNX.out HNY.out HY0.out).mono ?_
            rw [← HQ2.out]
            rintro e wb ⟨rfl, kb⟩
            have cb := ((Below.refl wa.heap.size wa).drew).trans kb
            have HMb := hid (HMa.out.below cb)
            clear hHeld
            have hHeld : S22 w.heap.size w3.heap.size T U u x y q r wb := HMb.out.s22
            refine hK.out _ _ hHeld ?_
            clear hK K
            try simp only [Act.put, List.setIfInBounds_toArray, List.set_cons_zero, List.set_cons_succ]
            refine wpAnyG_take (i := 9) (v := ?v9x113) rfl (by kernel_rfl) (fun _ _ _ h => h) (Or.inl ⟨by kernel_rfl, ?y9x113⟩) hHeld ?r9x113
            case y9x113 => (intro wS hSw; have s1 := hSw; go_simp; try with_reducible rfl)
            try simp only [Act.put, List.setIfInBounds_toArray, List.set_cons_zero, List.set_cons_succ]
            refine wpAnyG_take (i := 10) (v := ?v10x114) rfl (by kernel_rfl) (fun _ _ _ h => h) (Or.inl ⟨by rfl, ?y10x114⟩) hHeld ?r10x114
            case y10x114 => (intro wS hSw; obtain ⟨s1, s2, s3, s4, s5, s6, s7, s8, s9, s10, s11, s12, s13⟩ := hSw; go_simp; try with_reducible rfl)
            try simp only [Act.put, List.setIfInBounds_toArray, List.set_cons_zero, List.set_cons_succ]
            refine wpAnyG_take (i := 11) (v := ?v11x115) rfl (by kernel_rfl) (fun _ _ _ h => h) (Or.inl ⟨by rfl, ?y11x115⟩) hHeld ?r11x115
            case y11x115 => (intro wS hSw; obtain ⟨s1, s2, s3, s4, s5, s6, s7, s8, s9, s10, s11, s12, s13⟩ := hSw; go_simp; try with_reducible rfl)
            try simp only [Act.put, List.setIfInBounds_toArray, List.set_cons_zero, List.set_cons_succ]
            refine wpAnyG_take (i := 12) (v := ?v12x116) rfl (by kernel_rfl) (fun _ _ _ h => h) (Or.inl ⟨by kernel_rfl, ?y12x116⟩) hHeld ?r12x116
            case y12x116 => (intro wS hSw; have s1 := hSw; go_simp; try with_reducible rfl)
            try simp only [Act.put, List.setIfInBounds_toArray, List.set_cons_zero, List.set_cons_succ]
            refine wpAnyG_take (i := 13) (v := ?v13x117) rfl (by kernel_rfl) (fun _ _ _ h => h) (Or.inl ⟨by kernel_rfl, ?y13x117⟩) hHeld ?r13x117
            case y13x117 => (intro wS hSw; have s1 := hSw; go_simp; try with_reducible rfl)
            try simp only [Act.put, List.setIfInBounds_toArray, List.set_cons_zero, List.set_cons_succ]
            refine wpAnyG_take (i := 14) (v := ?v14x118) rfl (by kernel_rfl) (fun _ _ _ h => h) (Or.inl ⟨by kernel_rfl, ?y14x118⟩) hHeld ?r14x118
            case y14x118 => (intro wS hSw; have s1 := hSw; go_simp; try with_reducible rfl)
            try simp only [Act.put, List.setIfInBounds_toArray, List.set_cons_zero, List.set_cons_succ]
            refine wpAnyG_take (i := 15) (v := ?v15x119) rfl (by kernel_rfl) (fun _ _ _ h => h) (Or.inl ⟨by kernel_rfl, ?y15x119⟩) hHeld ?r15x119
            case y15x119 => (intro wS hSw; have s1 := hSw; go_simp; try with_reducible rfl)
            try simp only [Act.put, List.setIfInBounds_toArray, List.set_cons_zero, List.set_cons_succ]
            refine wpAnyG_take (i := 16) (v := ?v16x120) rfl (by kernel_rfl) (fun _ _ _ h => h) (Or.inl ⟨by kernel_rfl, ?y16x120⟩) hHeld ?r16x120
            case y16x120 => (intro wS hSw; have s1 := hSw; go_simp; try with_reducible rfl)
            try simp only [Act.put, List.setIfInBounds_toArray, List.set_cons_zero, List.set_cons_succ]
            refine wpAnyG_take (i := 17) (v := ?v17x121) rfl (by kernel_rfl) (fun _ _ _ h => h) (Or.inl ⟨by kernel_rfl, ?y17x121⟩) hHeld ?r17x121
            case y17x121 => (intro wS hSw; have s1 := hSw; go_simp; try with_reducible rfl)
            try simp only [Act.put, List.setIfInBounds_toArray, List.set_cons_zero, List.set_cons_succ]
            refine wpAnyG_one (i := 18) rfl (by kernel_rfl) (fun K hK => ?_)
            rw [if_pos (by kernel_rfl)]
            go_simp
            refine (Times_any T U u q y _ (by have := HQb.out.h1; omega) (by have := HQb.out.h2; omega) (by have := HQb.out.h3; omega) (by have := HQb.out.h4; omega) (by have := HQb.out.h5; omega) (by have := HQb.out.h6; omega)).mono ?_
            rintro e wc ⟨rfl, kc⟩
            have HMc := hid (HMb.out.below kc)
            clear hHeld
            have hHeld : S22 w.heap.size w3.heap.size T U u x y q r wc := HMc.out.s22
            refine hK.out _ _ hHeld ?_
            clear hK K
            try simp only [Act.put, List.setIfInBounds_toArray, List.set_cons_zero, List.set_cons_succ]
            refine wpAnyG_one (i := 19) rfl (by kernel_rfl) (fun K hK => ?_)
            rw [if_pos (by kernel_rfl)]
            go_simp
            refine (Less_ring T U u x _ _ (bd_mono HXB.out (by omega)) HQb.out.mul).mono ?_
            rw [← HR2.out]
            rintro e wd ⟨rfl, kd⟩
            have HMd := hid (HMc.out.below kd)
            clear hHeld
            have hHeld : S22 w.heap.size w3.heap.size T U u x y q r wd := HMd.out.s22
            refine hK.out _ _ hHeld ?_
            clear hK K
            try simp only [Act.put, List.setIfInBounds_toArray, List.set_cons_zero, List.set_cons_succ]
            refine wpAnyG_take (i := 20) (v := ?v20x122) rfl (by kernel_rfl) (fun _ _ _ h => h) (Or.inl ⟨by kernel_rfl, ?y20x122⟩) hHeld ?r20x122
            case y20x122 => (intro wS hSw; have s1 := hSw; go_simp; try with_reducible rfl)
            try simp only [Act.put, List.setIfInBounds_toArray, List.set_cons_zero, List.set_cons_succ]
            refine wpAnyG_last (i := 21) rfl (by kernel_rfl) (by kernel_rfl) (fun K hK => ?_)
            go_simp
            refine hK.out _ _ ?_
            clear hK K
            try simp only [Act.put, List.setIfInBounds_toArray, List.set_cons_zero, List.set_cons_succ]
            refine wpAnyG_done (by kernel_rfl) ?_ _
            clear hHeld HMa HMb HMc cb kb kc kd
            go_wp2_with fail
            refine wp_region_G (S24 w.heap.size w4.heap.size T U u x y g) 11 (by kernel_rfl) HMd.out.s24 (fun hHeld => ?_)
            refine wpAnyG_take (i := 0) (v := ?v0x123) rfl (by kernel_rfl) (fun _ _ _ h => h) (Or.inl ⟨by rfl, ?y0x123⟩) hHeld ?r0x123
            case y0x123 => (intro wS hSw; obtain ⟨s1, s2, s3, s4, s5, s6, s7, s8, s9, s10, s11⟩ := hSw; go_simp; try with_reducible rfl)
            try simp only [Act.put, List.setIfInBounds_toArray, List.set_cons_zero, List.set_cons_succ]
            refine wpAnyG_take (i := 1) (v := ?v1x124) rfl (by kernel_rfl) (fun _ _ _ h => h) (Or.inl ⟨by rfl, ?y1x124⟩) hHeld ?r1x124
            case y1x124 => (intro wS hSw; obtain ⟨s1, s2, s3, s4, s5, s6, s7, s8, s9, s10, s11⟩ := hSw; go_simp; try with_reducible rfl)
            try simp only [Act.put, List.setIfInBounds_toArray, List.set_cons_zero, List.set_cons_succ]
            refine wpAnyG_take (i := 2) (v := ?v2x125) rfl (by kernel_rfl) (fun _ _ _ h => h) (Or.inl ⟨by rfl, ?y2x125⟩) hHeld ?r2x125
            case y2x125 => (intro wS hSw; obtain ⟨s1, s2, s3, s4, s5, s6, s7, s8, s9, s10, s11⟩ := hSw; go_simp; try with_reducible rfl)
            try simp only [Act.put, List.setIfInBounds_toArray, List.set_cons_zero, List.set_cons_succ]
            refine wpAnyG_take (i := 3) (v := ?v3x126) rfl (by kernel_rfl) (fun _ _ _ h => h) (Or.inl ⟨by rfl, ?y3x126⟩) hHeld ?r3x126
            case y3x126 => (intro wS hSw; obtain ⟨s1, s2, s3, s4, s5, s6, s7, s8, s9, s10, s11⟩ := hSw; go_simp; try with_reducible rfl)
            try simp only [Act.put, List.setIfInBounds_toArray, List.set_cons_zero, List.set_cons_succ]
            refine wpAnyG_take (i := 4) (v := ?v4x127) rfl (by kernel_rfl) (fun _ _ _ h => h) (Or.inl ⟨by kernel_rfl, ?y4x127⟩) hHeld ?r4x127
            case y4x127 => (intro wS hSw; have s1 := hSw; go_simp; try with_reducible rfl)
            try simp only [Act.put, List.setIfInBounds_toArray, List.set_cons_zero, List.set_cons_succ]
            refine wpAnyG_take (i := 5) (v := ?v5x128) rfl (by kernel_rfl) (fun _ _ _ h => h) (Or.inl ⟨by kernel_rfl, ?y5x128⟩) hHeld ?r5x128
            case y5x128 => (intro wS hSw; have s1 := hSw; go_simp; try with_reducible rfl)
            try simp only [Act.put, List.setIfInBounds_toArray, List.set_cons_zero, List.set_cons_succ]
            refine wpAnyG_take (i := 6) (v := ?v6x129) rfl (by kernel_rfl) (fun _ _ _ h => h) (Or.inl ⟨by kernel_rfl, ?y6x129⟩) hHeld ?r6x129
            case y6x129 => (intro wS hSw; have s1 := hSw; go_simp; try with_reducible rfl)
            try simp only [Act.put, List.setIfInBounds_toArray, List.set_cons_zero, List.set_cons_succ]
            refine wpAnyG_take (i := 7) (v := ?v7x130) rfl (by kernel_rfl) (fun _ _ _ h => h) (Or.inl ⟨by kernel_rfl, ?y7x130⟩) hHeld ?r7x130
            case y7x130 => (intro wS hSw; have s1 := hSw; go_simp; try with_reducible rfl)
            try simp only [Act.put, List.setIfInBounds_toArray, List.set_cons_zero, List.set_cons_succ]
            refine wpAnyG_one (i := 8) rfl (by kernel_rfl) (fun K hK => ?_)
            rw [if_pos (by kernel_rfl)]
            go_simp
            refine (HGr.out _).mono ?_
            rintro e wz ⟨k, rfl, hk1, hk2, kz⟩
            have hgk := great_one HT.out HG3.out.1 hk1 HG3.out.2 hk2
            subst hgk
            have cz := ((Below.refl wd.heap.size wd).drew).trans kz
            have HMz := hid (HMd.out.below cz)
            clear hHeld
            have hHeld : S24 w.heap.size w4.heap.size T U u x y g wz := HMz.out.s24
            refine hK.out _ _ hHeld ?_
            clear hK K
            try simp only [Act.put, List.setIfInBounds_toArray, List.set_cons_zero, List.set_cons_succ]
            refine wpAnyG_take (i := 9) (v := ?v9x131) rfl (by kernel_rfl) (fun _ _ _ h => h) (Or.inl ⟨by kernel_rfl, ?y9x131⟩) hHeld ?r9x131
            case y9x131 => (intro wS hSw; have s1 := hSw; go_simp; try with_reducible rfl)
            try simp only [Act.put, List.setIfInBounds_toArray, List.set_cons_zero, List.set_cons_succ]
            refine wpAnyG_take (i := 10) (v := ?v10x132) rfl (by kernel_rfl) (fun _ _ _ h => h) (Or.inl ⟨by rfl, ?y10x132⟩) hHeld ?r10x132
            case y10x132 => (intro wS hSw; obtain ⟨s1, s2, s3, s4, s5, s6, s7, s8, s9, s10, s11⟩ := hSw; go_simp; try with_reducible rfl)
            try simp only [Act.put, List.setIfInBounds_toArray, List.set_cons_zero, List.set_cons_succ]
            refine wpAnyG_last (i := 11) rfl (by kernel_rfl) (by kernel_rfl) (fun K hK => ?_)
            go_simp
            refine hK.out _ _ ?_
            clear hK K
            try simp only [Act.put, List.setIfInBounds_toArray, List.set_cons_zero, List.set_cons_succ]
            refine wpAnyG_done (by kernel_rfl) ?_ _
            go_wp2
            go_ret
            exact ⟨rfl, HMz.out.k⟩
          · skip
            go_wp2_with fail
            refine wp_region_G (S22 w.heap.size w3.heap.size T U u x y q r) 21 (by kernel_rfl) HMa.out.s22 (fun hHeld => ?_)
            refine wpAnyG_take (i := 0) (v := ?v0x133) rfl (by kernel_rfl) (fun _ _ _ h => h) (Or.inl ⟨by rfl, ?y0x133⟩) hHeld ?r0x133
            case y0x133 => (intro wS hSw; obtain ⟨s1, s2, s3, s4, s5, s6, s7, s8, s9, s10, s11, s12, s13⟩ := hSw; go_simp; try with_reducible rfl)
            try simp only [Act.put, List.setIfInBounds_toArray, List.set_cons_zero, List.set_cons_succ]
            refine wpAnyG_take (i := 1) (v := ?v1x134) rfl (by kernel_rfl) (fun _ _ _ h => h) (Or.inl ⟨by rfl, ?y1x134⟩) hHeld ?r1x134
            case y1x134 => (intro wS hSw; obtain ⟨s1, s2, s3, s4, s5, s6, s7, s8, s9, s10, s11, s12, s13⟩ := hSw; go_simp; try with_reducible rfl)
            try simp only [Act.put, List.setIfInBounds_toArray, List.set_cons_zero, List.set_cons_succ]
            refine wpAnyG_take (i := 2) (v := ?v2x135) rfl (by kernel_rfl) (fun _ _ _ h => h) (Or.inl ⟨by rfl, ?y2x135⟩) hHeld ?r2x135
            case y2x135 => (intro wS hSw; obtain ⟨s1, s2, s3, s4, s5, s6, s7, s8, s9, s10, s11, s12, s13⟩ := hSw; go_simp; try with_reducible rfl)
            try simp only [Act.put, List.setIfInBounds_toArray, List.set_cons_zero, List.set_cons_succ]
            refine wpAnyG_take (i := 3) (v := ?v3x136) rfl (by kernel_rfl) (fun _ _ _ h => h) (Or.inl ⟨by rfl, ?y3x136⟩) hHeld ?r3x136
            case y3x136 => (intro wS hSw; obtain ⟨s1, s2, s3, s4, s5, s6, s7, s8, s9, s10, s11, s12, s13⟩ := hSw; go_simp; try with_reducible rfl)
            try simp only [Act.put, List.setIfInBounds_toArray, List.set_cons_zero, List.set_cons_succ]
            refine wpAnyG_take (i := 4) (v := ?v4x137) rfl (by kernel_rfl) (fun _ _ _ h => h) (Or.inl ⟨by kernel_rfl, ?y4x137⟩) hHeld ?r4x137
            case y4x137 => (intro wS hSw; have s1 := hSw; go_simp; try with_reducible rfl)
            try simp only [Act.put, List.setIfInBounds_toArray, List.set_cons_zero, List.set_cons_succ]
            refine wpAnyG_take (i := 5) (v := ?v5x138) rfl (by kernel_rfl) (fun _ _ _ h => h) (Or.inl ⟨by kernel_rfl, ?y5x138⟩) hHeld ?r5x138
            case y5x138 => (intro wS hSw; have s1 := hSw; go_simp; try with_reducible rfl)
            try simp only [Act.put, List.setIfInBounds_toArray, List.set_cons_zero, List.set_cons_succ]
            refine wpAnyG_take (i := 6) (v := ?v6x139) rfl (by kernel_rfl) (fun _ _ _ h => h) (Or.inl ⟨by kernel_rfl, ?y6x139⟩) hHeld ?r6x139
            case y6x139 => (intro wS hSw; have s1 := hSw; go_simp; try with_reducible rfl)
            try simp only [Act.put, List.setIfInBounds_toArray, List.set_cons_zero, List.set_cons_succ]
            refine wpAnyG_take (i := 7) (v := ?v7x140) rfl (by kernel_rfl) (fun _ _ _ h => h) (Or.inl ⟨by kernel_rfl, ?y7x140⟩) hHeld ?r7x140
            case y7x140 => (intro wS hSw; have s1 := hSw; go_simp; try with_reducible rfl)
            try simp only [Act.put, List.setIfInBounds_toArray, List.set_cons_zero, List.set_cons_succ]
            refine wpAnyG_one (i := 8) rfl (by kernel_rfl) (fun K hK => ?_)
            rw [if_pos (by kernel_rfl)]
            go_simp
            refine (Quotient_any T U u x y _ HT.out HNX.out HNY.out HY0.out).mono ?_
            rw [← HQ2.out]
            rintro e wb ⟨rfl, kb⟩
            have cb := ((Below.refl wa.heap.size wa).drew).trans kb
            have HMb := hid (HMa.out.below cb)
            clear hHeld
            have hHeld : S22 w.heap.size w3.heap.size T U u x y q r wb := HMb.out.s22
            refine hK.out _ _ hHeld ?_
            clear hK K
            try simp only [Act.put, List.setIfInBounds_toArray, List.set_cons_zero, List.set_cons_succ]
            refine wpAnyG_take (i := 9) (v := ?v9x141) rfl (by kernel_rfl) (fun _ _ _ h => h) (Or.inl ⟨by kernel_rfl, ?y9x141⟩) hHeld ?r9x141
            case y9x141 => (intro wS hSw; have s1 := hSw; go_simp; try with_reducible rfl)
            try simp only [Act.put, List.setIfInBounds_toArray, List.set_cons_zero, List.set_cons_succ]
            refine wpAnyG_take (i := 10) (v := ?v10x142) rfl (by kernel_rfl) (fun _ _ _ h => h) (Or.inl ⟨by rfl, ?y10x142⟩) hHeld ?r10x142
            case y10x142 => (intro wS hSw; obtain ⟨s1, s2, s3, s4, s5, s6, s7, s8, s9, s10, s11, s12, s13⟩ := hSw; go_simp; try with_reducible rfl)
            try simp only [Act.put, List.setIfInBounds_toArray, List.set_cons_zero, List.set_cons_succ]
            refine wpAnyG_take (i := 11) (v := ?v11x143) rfl (by kernel_rfl) (fun _ _ _ h => h) (Or.inl ⟨by rfl, ?y11x143⟩) hHeld ?r11x143
            case y11x143 => (intro wS hSw; obtain ⟨s1, s2, s3, s4, s5, s6, s7, s8, s9, s10, s11, s12, s13⟩ := hSw; go_simp; try with_reducible rfl)
            try simp only [Act.put, List.setIfInBounds_toArray, List.set_cons_zero, List.set_cons_succ]
            refine wpAnyG_take (i := 12) (v := ?v12x144) rfl (by kernel_rfl) (fun _ _ _ h => h) (Or.inl ⟨by kernel_rfl, ?y12x144⟩) hHeld ?r12x144
            case y12x144 => (intro wS hSw; have s1 := hSw; go_simp; try with_reducible rfl)
            try simp only [Act.put, List.setIfInBounds_toArray, List.set_cons_zero, List.set_cons_succ]
            refine wpAnyG_take (i := 13) (v := ?v13x145) rfl (by kernel_rfl) (fun _ _ _ h => h) (Or.inl ⟨by kernel_rfl, ?y13x145⟩) hHeld ?r13x145
            case y13x145 => (intro wS hSw; have s1 := hSw; go_simp; try with_reducible rfl)
            try simp only [Act.put, List.setIfInBounds_toArray, List.set_cons_zero, List.set_cons_succ]
            refine wpAnyG_take (i := 14) (v := ?v14x146) rfl (by kernel_rfl) (fun _ _ _ h => h) (Or.inl ⟨by kernel_rfl, ?y14x146⟩) hHeld ?r14x146
            case y14x146 => (intro wS hSw; have s1 := hSw; go_simp; try with_reducible rfl)
            try simp only [Act.put, List.setIfInBounds_toArray, List.set_cons_zero, List.set_cons_succ]
            refine wpAnyG_take (i := 15) (v := ?v15x147) rfl (by kernel_rfl) (fun _ _ _ h => h) (Or.inl ⟨by kernel_rfl, ?y15x147⟩) hHeld ?r15x147
            case y15x147 => (intro wS hSw; have s1 := hSw; go_simp; try with_reducible rfl)
            try simp only [Act.put, List.setIfInBounds_toArray, List.set_cons_zero, List.set_cons_succ]
            refine wpAnyG_take (i := 16) (v := ?v16x148) rfl (by kernel_rfl) (fun _ _ _ h => h) (Or.inl ⟨by kernel_rfl, ?y16x148⟩) hHeld ?r16x148
            case y16x148 => (intro wS hSw; have s1 := hSw; go_simp; try with_reducible rfl)
            try simp only [Act.put, List.setIfInBounds_toArray, List.set_cons_zero, List.set_cons_succ]
            refine wpAnyG_take (i := 17) (v := ?v17x149) rfl (by kernel_rfl) (fun _ _ _ h => h) (Or.inl ⟨by kernel_rfl, ?y17x149⟩) hHeld ?r17x149
            case y17x149 => (intro wS hSw; have s1 := hSw; go_simp; try with_reducible rfl)
            try simp only [Act.put, List.setIfInBounds_toArray, List.set_cons_zero, List.set_cons_succ]
            refine wpAnyG_one (i := 18) rfl (by kernel_rfl) (fun K hK => ?_)
            rw [if_pos (by kernel_rfl)]
            go_simp
            refine (Times_any T U u q y _ (by have := HQb.out.h1; omega) (by have := HQb.out.h2; omega) (by have := HQb.out.h3; omega) (by have := HQb.out.h4; omega) (by have := HQb.out.h5; omega) (by have := HQb.out.h6; omega)).mono ?_
            rintro e wc ⟨rfl, kc⟩
            have HMc := hid (HMb.out.below kc)
            clear hHeld
            have hHeld : S22 w.heap.size w3.heap.size T U u x y q r wc := HMc.out.s22
            refine hK.out _ _ hHeld ?_
            clear hK K
            try simp only [Act.put, List.setIfInBounds_toArray, List.set_cons_zero, List.set_cons_succ]
            refine wpAnyG_one (i := 19) rfl (by kernel_rfl) (fun K hK => ?_)
            rw [if_pos (by kernel_rfl)]
            go_simp
            refine (Less_ring T U u x _ _ (bd_mono HXB.out (by omega)) HQb.out.mul).mono ?_
            rw [← HR2.out]
            rintro e wd ⟨rfl, kd⟩
            have HMd := hid (HMc.out.below kd)
            clear hHeld
            have hHeld : S22 w.heap.size w3.heap.size T U u x y q r wd := HMd.out.s22
            refine hK.out _ _ hHeld ?_
            clear hK K
            try simp only [Act.put, List.setIfInBounds_toArray, List.set_cons_zero, List.set_cons_succ]
            refine wpAnyG_take (i := 20) (v := ?v20x150) rfl (by kernel_rfl) (fun _ _ _ h => h) (Or.inl ⟨by kernel_rfl, ?y20x150⟩) hHeld ?r20x150
            case y20x150 => (intro wS hSw; have s1 := hSw; go_simp; try with_reducible rfl)
            try simp only [Act.put, List.setIfInBounds_toArray, List.set_cons_zero, List.set_cons_succ]
            refine wpAnyG_last (i := 21) rfl (by kernel_rfl) (by kernel_rfl) (fun K hK => ?_)
            go_simp
            refine hK.out _ _ ?_
            clear hK K
            try simp only [Act.put, List.setIfInBounds_toArray, List.set_cons_zero, List.set_cons_succ]
            refine wpAnyG_done (by kernel_rfl) ?_ _
            clear hHeld HMa HMb HMc cb kb kc kd
            go_wp2_with fail
            refine wp_region_G (S24 w.heap.size w4.heap.size T U u x y g) 11 (by kernel_rfl) HMd.out.s24 (fun hHeld => ?_)
            refine wpAnyG_take (i := 0) (v := ?v0x151) rfl (by kernel_rfl) (fun _ _ _ h => h) (Or.inl ⟨by rfl, ?y0x151⟩) hHeld ?r0x151
            case y0x151 => (intro wS hSw; obtain ⟨s1, s2, s3, s4, s5, s6, s7, s8, s9, s10, s11⟩ := hSw; go_simp; try with_reducible rfl)
            try simp only [Act.put, List.setIfInBounds_toArray, List.set_cons_zero, List.set_cons_succ]
            refine wpAnyG_take (i := 1) (v := ?v1x152) rfl (by kernel_rfl) (fun _ _ _ h => h) (Or.inl ⟨by rfl, ?y1x152⟩) hHeld ?r1x152
            case y1x152 => (intro wS hSw; obtain ⟨s1, s2, s3, s4, s5, s6, s7, s8, s9, s10, s11⟩ := hSw; go_simp; try with_reducible rfl)
            try simp only [Act.put, List.setIfInBounds_toArray, List.set_cons_zero, List.set_cons_succ]
            refine wpAnyG_take (i := 2) (v := ?v2x153) rfl (by kernel_rfl) (fun _ _ _ h => h) (Or.inl ⟨by rfl, ?y2x153⟩) hHeld ?r2x153
            case y2x153 => (intro wS hSw; obtain ⟨s1, s2, s3, s4, s5, s6, s7, s8, s9, s10, s11⟩ := hSw; go_simp; try with_reducible rfl)
            try simp only [Act.put, List.setIfInBounds_toArray, List.set_cons_zero, List.set_cons_succ]
            refine wpAnyG_take (i := 3) (v := ?v3x154) rfl (by kernel_rfl) (fun _ _ _ h => h) (Or.inl ⟨by rfl, ?y3x154⟩) hHeld ?r3x154
            case y3x154 => (intro wS hSw; obtain ⟨s1, s2, s3, s4, s5, s6, s7, s8, s9, s10, s11⟩ := hSw; go_simp; try with_reducible rfl)
            try simp only [Act.put, List.setIfInBounds_toArray, List.set_cons_zero, List.set_cons_succ]
            refine wpAnyG_take (i := 4) (v := ?v4x155) rfl (by kernel_rfl) (fun _ _ _ h => h) (Or.inl ⟨by kernel_rfl, ?y4x155⟩) hHeld ?r4x155
            case y4x155 => (intro wS hSw; have s1 := hSw; go_simp; try with_reducible rfl)
            try simp only [Act.put, List.setIfInBounds_toArray, List.set_cons_zero, List.set_cons_succ]
            refine wpAnyG_take (i := 5) (v := ?v5x156) rfl (by kernel_rfl) (fun _ _ _ h => h) (Or.inl ⟨by kernel_rfl, ?y5x156⟩) hHeld ?r5x156
            case y5x156 => (intro wS hSw; have s1 := hSw; go_simp; try with_reducible rfl)
            try simp only [Act.put, List.setIfInBounds_toArray, List.set_cons_zero, List.set_cons_succ]
            refine wpAnyG_take (i := 6) (v := ?v6x157) rfl (by kernel_rfl) (fun _ _ _ h => h) (Or.inl ⟨by kernel_rfl, ?y6x157⟩) hHeld ?r6x157
            case y6x157 => (intro wS hSw; have s1 := hSw; go_simp; try with_reducible rfl)
            try simp only [Act.put, List.setIfInBounds_toArray, List.set_cons_zero, List.set_cons_succ]
            refine wpAnyG_take (i := 7) (v := ?v7x158) rfl (by kernel_rfl) (fun _ _ _ h => h) (Or.inl ⟨by kernel_rfl, ?y7x158⟩) hHeld ?r7x158
            case y7x158 => (intro wS hSw; have s1 := hSw; go_simp; try with_reducible rfl)
            try simp only [Act.put, List.setIfInBounds_toArray, List.set_cons_zero, List.set_cons_succ]
            refine wpAnyG_one (i := 8) rfl (by kernel_rfl) (fun K hK => ?_)
            rw [if_pos (by kernel_rfl)]
            go_simp
            refine (HGr.out _).mono ?_
            rintro e wz ⟨k, rfl, hk1, hk2, kz⟩
            have hgk := great_one HT.out HG3.out.1 hk1 HG3.out.2 hk2
            subst hgk
            have cz := ((Below.refl wd.heap.size wd).drew).trans kz
            have HMz := hid (HMd.out.below cz)
            clear hHeld
            have hHeld : S24 w.heap.size w4.heap.size T U u x y g wz := HMz.out.s24
            refine hK.out _ _ hHeld ?_
            clear hK K
            try simp only [Act.put, List.setIfInBounds_toArray, List.set_cons_zero, List.set_cons_succ]
            refine wpAnyG_take (i := 9) (v := ?v9x159) rfl (by kernel_rfl) (fun _ _ _ h => h) (Or.inl ⟨by kernel_rfl, ?y9x159⟩) hHeld ?r9x159
            case y9x159 => (intro wS hSw; have s1 := hSw; go_simp; try with_reducible rfl)
            try simp only [Act.put, List.setIfInBounds_toArray, List.set_cons_zero, List.set_cons_succ]
            refine wpAnyG_take (i := 10) (v := ?v10x160) rfl (by kernel_rfl) (fun _ _ _ h => h) (Or.inl ⟨by rfl, ?y10x160⟩) hHeld ?r10x160
            case y10x160 => (intro wS hSw; obtain ⟨s1, s2, s3, s4, s5, s6, s7, s8, s9, s10, s11⟩ := hSw; go_simp; try with_reducible rfl)
            try simp only [Act.put, List.setIfInBounds_toArray, List.set_cons_zero, List.set_cons_succ]
            refine wpAnyG_last (i := 11) rfl (by kernel_rfl) (by kernel_rfl) (fun K hK => ?_)
            go_simp
            refine hK.out _ _ ?_
            clear hK K
            try simp only [Act.put, List.setIfInBounds_toArray, List.set_cons_zero, List.set_cons_succ]
            refine wpAnyG_done (by kernel_rfl) ?_ _
            go_wp2
            go_ret
            exact ⟨rfl, HMz.out.k⟩

end Go.Proofs.YtogdggdaaiajnadGreatDoor
