/- The program: cont.rootOf. -/
import Derived.Test.YtpgedkdaflgfoafGreatDoorCgC
import Derived.Test.YtpgedkdaflgfoafGreatDoorJoinE
set_option linter.unusedSimpArgs false
set_option linter.unusedVariables false
set_option maxRecDepth 100000
namespace Go.Proofs.YtpgedkdaflgfoafGreatDoor
open Go.RowKit

/-- What rootOf answers: the root's box, and the fault. -/
def RoOut (d : Int) (v f : Value) : Prop :=
  ((d < 2 ∨ 1000000 < d) ∧ v = sgv 0 0 0 0 ∧ f = .agg #[.int .i64 3, .int .i64 0]) ∨
  (∃ r : Nat, (2 ≤ d ∧ d ≤ 1000000) ∧ (r : Int) * r = d ∧ v = sgv 0 0 0 0 ∧ f = .agg #[.int .i64 7, .int .i64 0]) ∨
  (∃ n r : Nat, d = n ∧ n ≤ 1000000 ∧ CfM.Rn n r ∧ v = sgv n r 0 1 ∧ f = .agg #[.int .i64 0, .int .i64 0])

theorem ro_end {h : Nat} {w W2 : World} (S2 : Cl h (sgc 0 0 0 0) 77 W2) (F2 : Cl (h + 1) [.int .i64 0, .int .i64 0] 25 W2) (K : Below h w W2) (a b c d e f : Value) :
    ∃ WF, (((((W2.setCell ⟨h, 0, none⟩ a).setCell ⟨h, 1, none⟩ b).setCell ⟨h, 2, none⟩ c).setCell ⟨h, 3, none⟩ d).setCell ⟨h + 1, 0, none⟩ e).setCell ⟨h + 1, 1, none⟩ f = WF ∧
      WF.cell? ⟨h, 0, none⟩ = some a ∧ WF.cell? ⟨h, 1, none⟩ = some b ∧ WF.cell? ⟨h, 2, none⟩ = some c ∧ WF.cell? ⟨h, 3, none⟩ = some d ∧ WF.cell? ⟨h + 1, 0, none⟩ = some e ∧ WF.cell? ⟨h + 1, 1, none⟩ = some f ∧ Below h w WF := by
  have S : Cl h [a, b, c, d] 77 ((((((W2.setCell ⟨h, 0, none⟩ a).setCell ⟨h, 1, none⟩ b).setCell ⟨h, 2, none⟩ c).setCell ⟨h, 3, none⟩ d).setCell ⟨h + 1, 0, none⟩ e).setCell ⟨h + 1, 1, none⟩ f) :=
    (((((S2.set 0 a).set 1 b).set 2 c).set 3 d).other (p := ⟨h + 1, 0, none⟩) (by simp) e).other (p := ⟨h + 1, 1, none⟩) (by simp) f
  have F : Cl (h + 1) [e, f] 25 ((((((W2.setCell ⟨h, 0, none⟩ a).setCell ⟨h, 1, none⟩ b).setCell ⟨h, 2, none⟩ c).setCell ⟨h, 3, none⟩ d).setCell ⟨h + 1, 0, none⟩ e).setCell ⟨h + 1, 1, none⟩ f) :=
    (((((F2.other (p := ⟨h, 0, none⟩) (by simp) a).other (p := ⟨h, 1, none⟩) (by simp) b).other (p := ⟨h, 2, none⟩) (by simp) c).other (p := ⟨h, 3, none⟩) (by simp) d).set 0 e).set 1 f
  exact ⟨_, rfl, S.cell 0, S.cell 1, S.cell 2, S.cell 3, F.cell 0, F.cell 1, ((((((K.setCell (Nat.le_refl _) _).setCell (Nat.le_refl _) _).setCell (Nat.le_refl _) _).setCell (Nat.le_refl _) _).setCell (by simp) _).setCell (by simp) _)⟩

set_option maxHeartbeats 2000000 in
theorem rootOf_any (d : Int) (w : World) :
    Calls Tryz.prog 42 #[.int .i64 d] w fun e w' => ∃ v f, e = .returned (.tuple #[v, f]) ∧ RoOut d v f ∧ Below w.heap.size w w' := by
  by_cases h1 : d < 2
  · have t1 : decide (d < 2) = true := decide_eq_true h1
    have HO : Hid (RoOut d (sgv 0 0 0 0) (.agg #[.int .i64 3, .int .i64 0])) := .inl ⟨.inl h1, rfl, rfl⟩
    clear h1
    go_enter Tryz.func42, Tryz.ntmps42
    go_wp2
    refine bodyPost_ret (v := .tuple #[sgv 0 0 0 0, .agg #[.int .i64 3, .int .i64 0]]) (by simp [results, Tryz.results42, go_sem, sgv]) rfl ⟨_, _, rfl, HO.out, ?_⟩
    exact ((Below.refl _ _).alloc (Nat.le_refl _) _).alloc (by simp) _
  by_cases h2 : 1000000 < d
  · have t1 : decide (d < 2) = false := decide_eq_false h1
    have t2 : decide (1000000 < d) = true := decide_eq_true h2
    have HO : Hid (RoOut d (sgv 0 0 0 0) (.agg #[.int .i64 3, .int .i64 0])) := .inl ⟨.inr h2, rfl, rfl⟩
    clear h1 h2
    go_enter Tryz.func42, Tryz.ntmps42
    go_wp2
    refine bodyPost_ret (v := .tuple #[sgv 0 0 0 0, .agg #[.int .i64 3, .int .i64 0]]) (by simp [results, Tryz.results42, go_sem, sgv]) rfl ⟨_, _, rfl, HO.out, ?_⟩
    exact ((Below.refl _ _).alloc (Nat.le_refl _) _).alloc (by simp) _
  obtain ⟨n, rfl⟩ := Int.eq_ofNat_of_zero_le (show 0 ≤ d by omega)
  have t1 : decide ((n : Int) < 2) = false := decide_eq_false h1
  have t2 : decide (1000000 < (n : Int)) = false := decide_eq_false h2
  have hn2 : 2 ≤ n ∧ n ≤ 1000000 := by omega
  have HRt : Hid (∀ w, Calls Tryz.prog 76 #[.int .i64 (n : Int), .int .i64 2] w fun e w' => ∃ r : Nat, e = .returned (.tuple #[.int .i64 (r : Int), .agg #[.int .i64 0, .int .i64 0]]) ∧ r ^ 2 ≤ n ∧ n < (r + 1) ^ 2 ∧ r < 1152921504606846976 ∧ Below w.heap.size w w') := fun w => Root_ok n 2 w (numB_mk (by omega) (by omega)) (by decide) (by decide)
  have hS : Cl w.heap.size (sgc 0 0 0 0) 77 ((w.alloc (.cells #[.int .i64 0, .int .i64 0, .int .i64 0, .int .i64 0] 77)).alloc (.cells #[.int .i64 0, .int .i64 0] 25)) := (Cl.new (sgc 0 0 0 0) _ w).alloc _
  have hF : Cl (w.heap.size + 1) [.int .i64 0, .int .i64 0] 25 ((w.alloc (.cells #[.int .i64 0, .int .i64 0, .int .i64 0, .int .i64 0] 77)).alloc (.cells #[.int .i64 0, .int .i64 0] 25)) := by
    have := Cl.new [.int .i64 0, .int .i64 0] 25 (w.alloc (.cells #[.int .i64 0, .int .i64 0, .int .i64 0, .int .i64 0] 77))
    rw [World.size_alloc] at this
    exact this
  have HS : Hid (Cl w.heap.size (sgc 0 0 0 0) 77 ((w.alloc (.cells #[.int .i64 0, .int .i64 0, .int .i64 0, .int .i64 0] 77)).alloc (.cells #[.int .i64 0, .int .i64 0] 25))) := hS
  have HF : Hid (Cl (w.heap.size + 1) [.int .i64 0, .int .i64 0] 25 ((w.alloc (.cells #[.int .i64 0, .int .i64 0, .int .i64 0, .int .i64 0] 77)).alloc (.cells #[.int .i64 0, .int .i64 0] 25))) := hF
  clear h1 h2 hS hF
  go_enter Tryz.func42, Tryz.ntmps42
  go_wp2_with fail
  refine (HRt.out _).mono ?_
  rintro e w1 ⟨r, rfl, h3, h4, h5, k1⟩
  have hr3 : r * r ≤ n := by rw [Nat.pow_two] at h3; exact h3
  have hr4 : n < (r + 1) * (r + 1) := by rw [Nat.pow_two] at h4; exact h4
  have hr1 : 1 ≤ r := by
    rcases Nat.lt_or_ge r 1 with h | h
    · have : r = 0 := by omega
      subst this; omega
    · exact h
  have hr5 : r ≤ 1000000 := by
    have := Nat.mul_le_mul hr1 (Nat.le_refl r)
    omega
  obtain ⟨R, hR⟩ : ∃ R : Nat, R = r * r := ⟨_, rfl⟩
  have hRI : (r : Int) * (r : Int) = (R : Int) := by rw [hR, Int.natCast_mul]
  have HR : Hid (R = r * r) := hR
  have hRn : R ≤ n := by omega
  have HR4 : Hid (n < (r + 1) * (r + 1)) := hr4
  have S1 := HS.out.below (k1.mono (by simp))
  have F1 := HF.out.below (k1.mono (by simp))
  have K1 : Hid (Below w.heap.size w w1) := (((Below.refl _ _).alloc (Nat.le_refl _) _).alloc (by simp) _).trans (k1.mono (by simp; omega))
  have z1 : w.heap.size + 2 ≤ w1.heap.size := by have := k1.size; simp at this; omega
  have HS1 : Hid (Cl w.heap.size (sgc 0 0 0 0) 77 w1) := S1
  have HF1 : Hid (Cl (w.heap.size + 1) [.int .i64 0, .int .i64 0] 25 w1) := F1
  obtain ⟨W2, hW2⟩ : ∃ W2, W2 = w1.alloc (.cells #[.int .i64 0, .int .i64 0] 25) := ⟨_, rfl⟩
  have S2 : Cl w.heap.size (sgc 0 0 0 0) 77 W2 := by rw [hW2]; exact S1.alloc _
  have F2 : Cl (w.heap.size + 1) [.int .i64 0, .int .i64 0] 25 W2 := by rw [hW2]; exact F1.alloc _
  have K2 : Hid (Below w.heap.size w W2) := by show Below _ _ _; rw [hW2]; exact K1.out.alloc (by omega) _
  have e0 : ∀ x : Obj, (w1.alloc x).cell? ⟨w.heap.size, 0, none⟩ = some (.int .i64 0) := fun x => (S1.alloc x).cell 0
  have e1 : ∀ x : Obj, (w1.alloc x).cell? ⟨w.heap.size, 1, none⟩ = some (.int .i64 0) := fun x => (S1.alloc x).cell 1
  have e2 : ∀ x : Obj, (w1.alloc x).cell? ⟨w.heap.size, 2, none⟩ = some (.int .i64 0) := fun x => (S1.alloc x).cell 2
  have e3 : ∀ x : Obj, (w1.alloc x).cell? ⟨w.heap.size, 3, none⟩ = some (.int .i64 0) := fun x => (S1.alloc x).cell 3
  have f0 : ∀ x : Obj, (w1.alloc x).cell? ⟨w.heap.size + 1, 0, none⟩ = some (.int .i64 0) := fun x => (F1.alloc x).cell 0
  have f1 : ∀ x : Obj, (w1.alloc x).cell? ⟨w.heap.size + 1, 1, none⟩ = some (.int .i64 0) := fun x => (F1.alloc x).cell 1
  have g0 : ∀ x : Obj, (w1.alloc x).frozen? ⟨w.heap.size, 0, none⟩ = false := fun x => (S1.alloc x).frozen 0
  have g1 : ∀ x : Obj, (w1.alloc x).frozen? ⟨w.heap.size, 1, none⟩ = false := fun x => (S1.alloc x).frozen 1
  have g2 : ∀ x : Obj, (w1.alloc x).frozen? ⟨w.heap.size, 2, none⟩ = false := fun x => (S1.alloc x).frozen 2
  have g3 : ∀ x : Obj, (w1.alloc x).frozen? ⟨w.heap.size, 3, none⟩ = false := fun x => (S1.alloc x).frozen 3
  have g4 : ∀ x : Obj, (w1.alloc x).frozen? ⟨w.heap.size + 1, 0, none⟩ = false := fun x => (F1.alloc x).frozen 0
  have g5 : ∀ x : Obj, (w1.alloc x).frozen? ⟨w.heap.size + 1, 1, none⟩ = false := fun x => (F1.alloc x).frozen 1
  have HS2 : Hid (Cl w.heap.size (sgc 0 0 0 0) 77 W2) := S2
  have HF2 : Hid (Cl (w.heap.size + 1) [.int .i64 0, .int .i64 0] 25 W2) := F2
  have HW2 : Hid (W2 = w1.alloc (.cells #[.int .i64 0, .int .i64 0] 25)) := hW2
  clear h3 h4 h5 k1 S1 F1 S2 F2 hr3 hr4 hR HRt HS HF hW2
  by_cases hsq : R = n
  · have hqb : ((R : Int) == (n : Int)) = true := beq_iff_eq.2 (by omega)
    have HO : Hid (RoOut (n : Int) (sgv 0 0 0 0) (.agg #[.int .i64 7, .int .i64 0])) := .inr (.inl ⟨r, by omega, by rw [hRI, hsq], rfl, rfl⟩)
    clear hsq
    go_wp2
    rw [← HW2.out]
    obtain ⟨WF, hWF, c0, c1, c2, c3, c4, c5, KF⟩ := ro_end HS2.out HF2.out K2.out (.int .i64 0) (.int .i64 0) (.int .i64 0) (.int .i64 0) (.int .i64 7) (.int .i64 0)
    rw [hWF]
    exact bodyPost_ret (v := .tuple #[sgv 0 0 0 0, .agg #[.int .i64 7, .int .i64 0]]) (by simp [results, Tryz.results42, go_sem, sgv, c0, c1, c2, c3, c4, c5]) rfl ⟨_, _, rfl, HO.out, KF⟩
  · have hqb : ((R : Int) == (n : Int)) = false := beq_eq_false_iff_ne.2 (by omega)
    have HO : Hid (RoOut (n : Int) (sgv n r 0 1) (.agg #[.int .i64 0, .int .i64 0])) := .inr (.inr ⟨n, r, rfl, hn2.2, ⟨hr1, by have := HR.out; omega, HR4.out⟩, rfl, rfl⟩)
    clear hsq
    go_wp2
    rw [← HW2.out]
    obtain ⟨WF, hWF, c0, c1, c2, c3, c4, c5, KF⟩ := ro_end HS2.out HF2.out K2.out (.int .i64 (n : Int)) (.int .i64 (r : Int)) (.int .i64 0) (.int .i64 1) (.int .i64 0) (.int .i64 0)
    rw [hWF]
    exact bodyPost_ret (v := .tuple #[sgv n r 0 1, .agg #[.int .i64 0, .int .i64 0]]) (by simp [results, Tryz.results42, go_sem, sgv, c0, c1, c2, c3, c4, c5]) rfl ⟨_, _, rfl, HO.out, KF⟩

end Go.Proofs.YtpgedkdaflgfoafGreatDoor
