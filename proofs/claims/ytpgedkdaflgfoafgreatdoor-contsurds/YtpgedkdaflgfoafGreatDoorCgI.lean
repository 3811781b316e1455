/- The program: cont.Surd. -/
import Derived.Test.YtpgedkdaflgfoafGreatDoorCgH
set_option linter.unusedSimpArgs false
set_option linter.unusedVariables false
set_option maxRecDepth 100000
namespace Go.Proofs.YtpgedkdaflgfoafGreatDoor
open Go.RowKit LgM CfM

/-- What Surd answers: the first, the list and the fault. -/
def SuOut (d : Int) (e : Ending) (w' : World) : Prop :=
  ((d < 2 ∨ 1000000 < d) ∧ e = .returned (.tuple #[.int .i64 0, .slice none 0 0, .agg #[.int .i64 3, .int .i64 0]])) ∨
  ((∃ r : Nat, (2 ≤ d ∧ d ≤ 1000000) ∧ (r : Int) * r = d) ∧ e = .returned (.tuple #[.int .i64 0, .slice none 0 0, .agg #[.int .i64 7, .int .i64 0]])) ∨
  (∃ n r : Nat, d = n ∧ n ≤ 1000000 ∧ Rn n r ∧ (((∀ i, i < 1000 → (cs n r i).2 ≠ 1) ∧ e = .returned (.tuple #[.int .i64 0, .slice none 0 0, .agg #[.int .i64 9, .int .i64 0]])) ∨
    ∃ N a c, Fst n r N ∧ e = .returned (.tuple #[.int .i64 (r : Int), .slice a N c, .agg #[.int .i64 0, .int .i64 0]]) ∧ IS w' (.slice a N c) (nz (kl r (cs n r) N))))

set_option maxHeartbeats 4000000 in
theorem Surd_any (d : Int) (w : World) :
    Calls Tryz.prog 12 #[.int .i64 d] w fun e w' => SuOut d e w' ∧ Below w.heap.size w w' := by
  have F0 : Cl w.heap.size [.int .i64 0, .int .i64 0] 25 (w.alloc (.cells #[.int .i64 0, .int .i64 0] 25)) := Cl.new [.int .i64 0, .int .i64 0] _ w
  have HRo : Hid (∀ w, Calls Tryz.prog 42 #[.int .i64 d] w fun e w' => ∃ v f, e = .returned (.tuple #[v, f]) ∧ RoOut d v f ∧ Below w.heap.size w w') := fun w => rootOf_any d w
  have HF0 : Hid (Cl w.heap.size [.int .i64 0, .int .i64 0] 25 (w.alloc (.cells #[.int .i64 0, .int .i64 0] 25))) := F0
  clear F0
  go_enter Tryz.func12, Tryz.ntmps12
  go_wp2_with fail
  refine (HRo.out _).mono ?_
  rintro e w1 ⟨v, f, rfl, ho, k1⟩
  have F1 := HF0.out.below k1
  have K1 : Below w.heap.size w w1 := ((Below.refl _ w).alloc (Nat.le_refl _) _).trans (k1.mono (by simp))
  have e0 : ∀ x : Obj, (w1.alloc x).cell? ⟨w.heap.size, 0, none⟩ = some (.int .i64 0) := fun x => (F1.alloc x).cell 0
  have e1 : ∀ x : Obj, (w1.alloc x).cell? ⟨w.heap.size, 1, none⟩ = some (.int .i64 0) := fun x => (F1.alloc x).cell 1
  have g0 : ∀ x : Obj, (w1.alloc x).frozen? ⟨w.heap.size, 0, none⟩ = false := fun x => (F1.alloc x).frozen 0
  have g1 : ∀ x : Obj, (w1.alloc x).frozen? ⟨w.heap.size, 1, none⟩ = false := fun x => (F1.alloc x).frozen 1
  have HF1 : Hid (Cl w.heap.size [.int .i64 0, .int .i64 0] 25 w1) := F1
  have HK1 : Hid (Below w.heap.size w w1) := K1
  clear F1 K1 k1 HRo HF0
  rcases ho with ⟨hd, rfl, rfl⟩ | ⟨r, hd, hr, rfl, rfl⟩ | ⟨n, r, rfl, hn, hRn, rfl, rfl⟩
  · have HO : Hid (∀ w', SuOut d (.returned (.tuple #[.int .i64 0, .slice none 0 0, .agg #[.int .i64 3, .int .i64 0]])) w') := fun _ => .inl ⟨hd, rfl⟩
    have M0 : Pm w.heap.size w1.heap.size 0 0 0 0 3 0 w (((w1.alloc (.cells #[.int .i64 0, .int .i64 0, .int .i64 0, .int .i64 0] 77)).setCell ⟨w.heap.size, 0, none⟩ (.int .i64 3)).setCell ⟨w.heap.size, 1, none⟩ (.int .i64 0)) := pm_root HF1.out HK1.out 0 0 0 0 3 0
    clear hd
    unfold sgv
    go_wp2
    generalize hW2 : (((w1.alloc (.cells #[.int .i64 0, .int .i64 0, .int .i64 0, .int .i64 0] 77)).setCell ⟨w.heap.size, 0, none⟩ (.int .i64 3)).setCell ⟨w.heap.size, 1, none⟩ (.int .i64 0)) = W2 at M0 ⊢
    have f0 := M0.f.cell 0
    have f1 := M0.f.cell 1
    have f2 := M0.f.frozen 0
    have f3 := M0.f.frozen 1
    simp at f0 f1
    have HM0 : Hid (Pm w.heap.size w1.heap.size 0 0 0 0 3 0 w W2) := M0
    clear M0 hW2 e0 e1 g0 g1
    go_region
    all_goals
      go_wp2
      have Z := ((HM0.out.f.set 0 (.int .i64 3)).set 1 (.int .i64 0)).drew
      have KF := ((HM0.out.k.setCell (p := ⟨w.heap.size, 0, none⟩) (Nat.le_refl _) (.int .i64 3)).setCell (p := ⟨w.heap.size, 1, none⟩) (Nat.le_refl _) (.int .i64 0)).drew
      have z0 := Z.cell 0
      have z1 := Z.cell 1
      simp at z0 z1
      exact bodyPost_ret (v := .tuple #[.int .i64 0, .slice none 0 0, .agg #[.int .i64 3, .int .i64 0]]) (by simp [results, Tryz.results12, go_sem, z0, z1]) rfl ⟨HO.out _, KF⟩
  · have HO : Hid (∀ w', SuOut d (.returned (.tuple #[.int .i64 0, .slice none 0 0, .agg #[.int .i64 7, .int .i64 0]])) w') := fun _ => .inr (.inl ⟨⟨r, hd, hr⟩, rfl⟩)
    clear hr
    have M0 : Pm w.heap.size w1.heap.size 0 0 0 0 7 0 w (((w1.alloc (.cells #[.int .i64 0, .int .i64 0, .int .i64 0, .int .i64 0] 77)).setCell ⟨w.heap.size, 0, none⟩ (.int .i64 7)).setCell ⟨w.heap.size, 1, none⟩ (.int .i64 0)) := pm_root HF1.out HK1.out 0 0 0 0 7 0
    clear hd
    unfold sgv
    go_wp2
    generalize hW2 : (((w1.alloc (.cells #[.int .i64 0, .int .i64 0, .int .i64 0, .int .i64 0] 77)).setCell ⟨w.heap.size, 0, none⟩ (.int .i64 7)).setCell ⟨w.heap.size, 1, none⟩ (.int .i64 0)) = W2 at M0 ⊢
    have f0 := M0.f.cell 0
    have f1 := M0.f.cell 1
    have f2 := M0.f.frozen 0
    have f3 := M0.f.frozen 1
    simp at f0 f1
    have HM0 : Hid (Pm w.heap.size w1.heap.size 0 0 0 0 7 0 w W2) := M0
    clear M0 hW2 e0 e1 g0 g1
    go_region
    all_goals
      go_wp2
      have Z := ((HM0.out.f.set 0 (.int .i64 7)).set 1 (.int .i64 0)).drew
      have KF := ((HM0.out.k.setCell (p := ⟨w.heap.size, 0, none⟩) (Nat.le_refl _) (.int .i64 7)).setCell (p := ⟨w.heap.size, 1, none⟩) (Nat.le_refl _) (.int .i64 0)).drew
      have z0 := Z.cell 0
      have z1 := Z.cell 1
      simp at z0 z1
      exact bodyPost_ret (v := .tuple #[.int .i64 0, .slice none 0 0, .agg #[.int .i64 7, .int .i64 0]]) (by simp [results, Tryz.results12, go_sem, z0, z1]) rfl ⟨HO.out _, KF⟩
  · have M0 : Pm w.heap.size w1.heap.size n r 0 1 0 0 w (((w1.alloc (.cells #[.int .i64 (n : Int), .int .i64 (r : Int), .int .i64 0, .int .i64 1] 77)).setCell ⟨w.heap.size, 0, none⟩ (.int .i64 0)).setCell ⟨w.heap.size, 1, none⟩ (.int .i64 0)) := pm_root HF1.out HK1.out n r 0 1 0 0
    have HRn : Hid (Rn n r) := hRn
    have hr1000 := rn_small hRn hn
    clear hRn
    have hne1 : w1.heap.size ≠ w.heap.size := by have := M0.h5; omega
    have hne2 : w.heap.size ≠ w1.heap.size := by have := M0.h5; omega
    rcases fst_or n r with ⟨N, hF⟩ | hno
    · have HCy : Hid (∀ w, Calls Tryz.prog 43 #[.agg #[.int .i64 (n : Int), .int .i64 (r : Int), .int .i64 0, .int .i64 1]] w (CyPost r (cs n r) N w)) := fun w => cycle_any n r 0 1 N (cs n r) (cs_sq HRn.out hn) true hF.1 (by have := hF.2.1; omega) (fun _ => hF.2.2.1) hF.2.2.2 (fun h => by cases h) (fun h => by cases h) w
      have HQt : Hid (∀ w, Calls Tryz.prog 44 #[.agg #[.int .i64 (n : Int), .int .i64 (r : Int), .int .i64 0, .int .i64 1]] w fun e w' => e = .returned (.int .i64 (r : Int)) ∧ Below w.heap.size w w') := fun w => by
        have := quotient_any n r 0 1 w (by omega) (by omega) (by omega) (by omega)
        simp only [Nat.zero_add, Nat.div_one] at this
        exact this
      have HF : Hid (Fst n r N) := hF
      have hN1 := hF.1
      have hN2 := hF.2.1
      clear hF
      unfold sgv
      go_wp2_with fail
      generalize hW2 : (((w1.alloc (.cells #[.int .i64 (n : Int), .int .i64 (r : Int), .int .i64 0, .int .i64 1] 77)).setCell ⟨w.heap.size, 0, none⟩ (.int .i64 0)).setCell ⟨w.heap.size, 1, none⟩ (.int .i64 0)) = W2 at M0 ⊢
      refine (HCy.out W2).mono ?_
      rintro e w3 ⟨k3, ⟨_, a, c, rfl, hrow⟩ | ⟨h, _⟩⟩
      · have M3 := M0.below k3
        have f0 := M3.f.cell 0
        have f1 := M3.f.cell 1
        have f2 := M3.f.frozen 0
        have f3 := M3.f.frozen 1
        simp at f0 f1
        have M4 : Pm w.heap.size w1.heap.size n r 0 1 0 0 w ((w3.setCell ⟨w.heap.size, 0, none⟩ (.int .i64 0)).setCell ⟨w.heap.size, 1, none⟩ (.int .i64 0)) :=
          ⟨(M3.f.set 0 _).set 1 _, (M3.s.other (by simp; omega) _).other (by simp; omega) _, (M3.k.setCell (Nat.le_refl _) _).setCell (Nat.le_refl _) _, M3.h5⟩
        have hl : w.heap.size < W2.heap.size := M0.f.lt
        have row4 : ((w3.setCell ⟨w.heap.size, 0, none⟩ (.int .i64 0)).setCell ⟨w.heap.size, 1, none⟩ (.int .i64 0)).ownsRow W2.heap.size 3 1 (.slice a N c) N (ints (nz (kl r (cs n r) N))) := ownsRow_setCell_below (ownsRow_setCell_below hrow (by exact hl) _) (by exact hl) _
        have HM4 : Hid (Pm w.heap.size w1.heap.size n r 0 1 0 0 w ((w3.setCell ⟨w.heap.size, 0, none⟩ (.int .i64 0)).setCell ⟨w.heap.size, 1, none⟩ (.int .i64 0))) := M4
        have HR4 : Hid (((w3.setCell ⟨w.heap.size, 0, none⟩ (.int .i64 0)).setCell ⟨w.heap.size, 1, none⟩ (.int .i64 0)).ownsRow W2.heap.size 3 1 (.slice a N c) N (ints (nz (kl r (cs n r) N)))) := row4
        have s0 : ∀ x y : Value, ((w3.setCell ⟨w.heap.size, 0, none⟩ x).setCell ⟨w.heap.size, 1, none⟩ y).cell? ⟨w1.heap.size, 0, none⟩ = some (.int .i64 (n : Int)) := fun x y => ((M3.s.other (by simp; omega) x).other (by simp; omega) y).cell 0
        have s1 : ∀ x y : Value, ((w3.setCell ⟨w.heap.size, 0, none⟩ x).setCell ⟨w.heap.size, 1, none⟩ y).cell? ⟨w1.heap.size, 1, none⟩ = some (.int .i64 (r : Int)) := fun x y => ((M3.s.other (by simp; omega) x).other (by simp; omega) y).cell 1
        have s2 : w3.cell? ⟨w1.heap.size, 2, none⟩ = some (.int .i64 0) := M3.s.cell 2
        have s3 : w3.cell? ⟨w1.heap.size, 3, none⟩ = some (.int .i64 1) := M3.s.cell 3
        have s4 : w3.cell? ⟨w1.heap.size, 0, none⟩ = some (.int .i64 (n : Int)) := M3.s.cell 0
        have s5 : w3.cell? ⟨w1.heap.size, 1, none⟩ = some (.int .i64 (r : Int)) := M3.s.cell 1
        clear M0 M3 M4 k3 hrow row4 hW2 HCy e0 e1 g0 g1 s0 s1
        go_wp2_with fail
        generalize hW4 : ((w3.setCell ⟨w.heap.size, 0, none⟩ (.int .i64 0)).setCell ⟨w.heap.size, 1, none⟩ (.int .i64 0)) = W4 at HM4 HR4 ⊢
        clear s2 s3 s4 s5 f0 f1 f2 f3 hW4
        refine (HQt.out W4).mono ?_
        rintro e w5 ⟨rfl, k5⟩
        have M5 := HM4.out.below k5
        have f0 := M5.f.cell 0
        have f1 := M5.f.cell 1
        have f2 := M5.f.frozen 0
        have f3 := M5.f.frozen 1
        simp at f0 f1
        have row5 : w5.ownsRow W2.heap.size 3 1 (.slice a N c) N (ints (nz (kl r (cs n r) N))) := row_kept HR4.out (fun g e => k5.block g (HR4.out.lt g e).2)
        have HI5 : Hid (IS ((w5.setCell ⟨w.heap.size, 0, none⟩ (.int .i64 0)).setCell ⟨w.heap.size, 1, none⟩ (.int .i64 0)) (.slice a N c) (nz (kl r (cs n r) N))) := IS.ownL (by rw [nz_len, kl_len]) (ownsRow_setCell_below (ownsRow_setCell_below row5 (by exact hl) _) (by exact hl) _)
        have HM5 : Hid (Pm w.heap.size w1.heap.size n r 0 1 0 0 w w5) := M5
        clear M5 row5 k5
        go_wp2
        have Z := (HM5.out.f.set 0 (.int .i64 0)).set 1 (.int .i64 0)
        have KF := (HM5.out.k.setCell (p := ⟨w.heap.size, 0, none⟩) (Nat.le_refl _) (.int .i64 0)).setCell (p := ⟨w.heap.size, 1, none⟩) (Nat.le_refl _) (.int .i64 0)
        have z0 := Z.cell 0
        have z1 := Z.cell 1
        simp at z0 z1
        generalize hWF : ((w5.setCell ⟨w.heap.size, 0, none⟩ (.int .i64 0)).setCell ⟨w.heap.size, 1, none⟩ (.int .i64 0)) = WF at z0 z1 KF HI5 ⊢
        exact bodyPost_ret (v := .tuple #[.int .i64 (r : Int), .slice a N c, .agg #[.int .i64 0, .int .i64 0]]) (by simp [results, Tryz.results12, go_sem, z0, z1]) rfl ⟨.inr (.inr ⟨n, r, rfl, hn, HRn.out, .inr ⟨N, a, c, HF.out, rfl, HI5.out⟩⟩), KF⟩
      · omega
    · have HCy : Hid (∀ w, Calls Tryz.prog 43 #[.agg #[.int .i64 (n : Int), .int .i64 (r : Int), .int .i64 0, .int .i64 1]] w (CyPost r (cs n r) 1001 w)) := fun w => cycle_any n r 0 1 1001 (cs n r) (cs_sq HRn.out hn) (decide ((cs n r 1000).2 = 1)) (by omega) (by omega) (fun h => by simpa using h) (fun i hi => hno i (by omega)) (fun h => by simpa using h) (fun _ => rfl) w
      have HO : Hid (∀ w', SuOut (n : Int) (.returned (.tuple #[.int .i64 0, .slice none 0 0, .agg #[.int .i64 9, .int .i64 0]])) w') := fun _ => .inr (.inr ⟨n, r, rfl, hn, HRn.out, .inl ⟨hno, rfl⟩⟩)
      clear hno
      unfold sgv
      go_wp2_with fail
      generalize hW2 : (((w1.alloc (.cells #[.int .i64 (n : Int), .int .i64 (r : Int), .int .i64 0, .int .i64 1] 77)).setCell ⟨w.heap.size, 0, none⟩ (.int .i64 0)).setCell ⟨w.heap.size, 1, none⟩ (.int .i64 0)) = W2 at M0 ⊢
      refine (HCy.out W2).mono ?_
      rintro e w3 ⟨k3, ⟨h, _⟩ | ⟨_, rfl⟩⟩
      · omega
      · have M3 := M0.below k3
        have f0 := M3.f.cell 0
        have f1 := M3.f.cell 1
        have f2 := M3.f.frozen 0
        have f3 := M3.f.frozen 1
        simp at f0 f1
        have M4 : Pm w.heap.size w1.heap.size n r 0 1 9 0 w ((w3.setCell ⟨w.heap.size, 0, none⟩ (.int .i64 9)).setCell ⟨w.heap.size, 1, none⟩ (.int .i64 0)) :=
          ⟨(M3.f.set 0 _).set 1 _, (M3.s.other (by simp; omega) _).other (by simp; omega) _, (M3.k.setCell (Nat.le_refl _) _).setCell (Nat.le_refl _) _, M3.h5⟩
        have HM4 : Hid (Pm w.heap.size w1.heap.size n r 0 1 9 0 w ((w3.setCell ⟨w.heap.size, 0, none⟩ (.int .i64 9)).setCell ⟨w.heap.size, 1, none⟩ (.int .i64 0))) := M4
        clear M0 M3 M4 k3 hW2 HCy e0 e1 g0 g1
        go_wp2
        generalize hW4 : ((w3.setCell ⟨w.heap.size, 0, none⟩ (.int .i64 9)).setCell ⟨w.heap.size, 1, none⟩ (.int .i64 0)) = W4 at HM4 ⊢
        clear f0 f1 f2 f3 hW4
        have f0 := HM4.out.f.cell 0
        have f1 := HM4.out.f.cell 1
        have f2 := HM4.out.f.frozen 0
        have f3 := HM4.out.f.frozen 1
        simp at f0 f1
        go_region
        all_goals
          go_wp2
          have Z := ((HM4.out.f.set 0 (.int .i64 9)).set 1 (.int .i64 0)).drew
          have KF := ((HM4.out.k.setCell (p := ⟨w.heap.size, 0, none⟩) (Nat.le_refl _) (.int .i64 9)).setCell (p := ⟨w.heap.size, 1, none⟩) (Nat.le_refl _) (.int .i64 0)).drew
          have z0 := Z.cell 0
          have z1 := Z.cell 1
          simp at z0 z1
          exact bodyPost_ret (v := .tuple #[.int .i64 0, .slice none 0 0, .agg #[.int .i64 9, .int .i64 0]]) (by simp [results, Tryz.results12, go_sem, z0, z1]) rfl ⟨HO.out _, KF⟩

end Go.Proofs.YtpgedkdaflgfoafGreatDoor
