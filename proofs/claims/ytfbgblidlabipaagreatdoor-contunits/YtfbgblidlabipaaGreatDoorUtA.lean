/- The program: cont.Unit, of every number. Written by mkuta.py. -/
import Derived.Test.YtfbgblidlabipaaGreatDoorJnT
import Derived.Test.YtfbgblidlabipaaGreatDoorJnW
import Derived.Test.YtfbgblidlabipaaGreatDoorJnX
import Derived.Deep.CutRange
set_option linter.unusedSimpArgs false
set_option linter.unusedVariables false
set_option maxRecDepth 100000
namespace Go.Proofs.YtfbgblidlabipaaGreatDoor
open Go.RowKit LgM CfM UtM

theorem ts_sq {n r p0 q0 P Q X Y : Nat} (h : Kd n r p0 q0 P Q X Y) (hn : n ≤ 1000000) : Sq n r p0 q0 (ts n r P Q) := by
  have hr := rn_small h.rn hn
  have hr1 := h.rn.r1
  have hlo := h.rn.lo
  refine ⟨?_, fun i => ?_⟩
  · have hc := h.cq
    have a1 := hc.p1; have a2 := hc.pr; have a3 := hc.qp
    have hPr : P * P ≤ r * r := Nat.mul_le_mul (by omega) (by omega)
    rcases h.two with ⟨e0, e9, e1, e2, e3, e4⟩ | ⟨e0, e9, h3, h4, h5, h6, e3, e4⟩
    · subst e0 e9
      refine ⟨by omega, by omega, by omega, by omega, by omega, ?_, ?_, ?_, ?_⟩
      · show P ≤ _; omega
      · show P + 0 = _; rw [e1]; simp
      · show P * P ≤ n; omega
      · show (n - P * P) / 1 = Q; rw [e1, e2]; simp
    · subst e0 e9
      refine ⟨by omega, by omega, by omega, by omega, by omega, ?_, ?_, ?_, ?_⟩
      · show P ≤ _; omega
      · show P + 1 = _; omega
      · show P * P ≤ n; omega
      · show (n - P * P) / 2 = Q; omega
  · obtain ⟨h1, h2, h3, h4, h5, h6⟩ := ts_bd h i
    obtain ⟨g1, g2, g3, g4, g5, g6⟩ := ts_bd h (i + 1)
    obtain ⟨c1, c2, c3, c4⟩ := ts_cq h i
    refine ⟨by omega, by omega, by omega, h3, by omega, by omega, ?_, ?_, rfl⟩
    · have e := np_def (r : Int) ((ts n r P Q i).1 : Nat) ((ts n r P Q i).2 : Nat)
      rw [← c4, ← c2, ← Int.natCast_mul] at e
      show (ts n r P Q (i + 1)).1 + (ts n r P Q i).1 = tk n r P Q i * (ts n r P Q i).2
      omega
    · have := Nat.mul_le_mul g2 g2; omega
theorem klt_get (r : Nat) (t : Nat → Nat × Nat) (N i : Nat) (h : i < N) : (kl r t N).getD i 0 = kth r t i := by
  rw [List.getD_eq_getElem?_getD, kl, List.getElem?_map, List.getElem?_range h]; rfl
theorem klt_small {n r p0 q0 P Q X Y : Nat} (h : Kd n r p0 q0 P Q X Y) (hn : n ≤ 1000000) (N i : Nat) : (kl r (ts n r P Q) N).getD i 0 ≤ 2000 := by
  have hr := rn_small h.rn hn
  rcases Nat.lt_or_ge i N with c | c
  · rw [klt_get _ _ _ _ c]
    have := (ts_bd h i).2.2.2.2.2
    unfold tk at this
    unfold kth
    omega
  · rw [List.getD_eq_getElem?_getD, List.getElem?_eq_none (by rw [kl_len]; omega)]; simp
theorem cb_tf {n r P Q X Y m : Nat} {L : List Nat} (hL : ∀ i, i < m → L.getD i 0 = tk n r P Q i) (i : Nat) (hi : i ≤ m) : cb L ((2, 0), (X, Y)) i = tf n r P Q X Y i := by
  induction i with
  | zero => rfl
  | succ i ih =>
    have e := ih (by omega)
    simp only [cb, tf, e, hL i (by omega)]
    rw [Nat.mul_comm (tk n r P Q i), Nat.mul_comm (tk n r P Q i)]
theorem kd_start {d r p0 q0 P Q X Y : Nat} (h : Kd d r p0 q0 P Q X Y) : 2 * P / q0 = X ∧ 2 / q0 = Y := by
  rcases h.two with ⟨e0, _, e1, e2, e3, e4⟩ | ⟨e0, _, h3, h4, h5, h6, e3, e4⟩ <;> subst e0 <;> omega

/-- What Unit answers. -/
def unF (c : Int) : Ending := .returned (.tuple #[.string ⟨#[]⟩, .string ⟨#[]⟩, .int .i64 0, .agg #[.int .i64 c, .int .i64 0]])
def unG (n r P Q X Y N : Nat) : Ending := .returned (.tuple #[.string ⟨(Lib.decDigits (tf n r P Q X Y (N - 1)).2.1).toArray⟩, .string ⟨(Lib.decDigits (tf n r P Q X Y (N - 1)).2.2).toArray⟩, .int .i64 (sgn N), .agg #[.int .i64 0, .int .i64 0]])
def SqF (n : Nat) : Prop := ∃ p : Nat, 2 ≤ p ∧ p * p ∣ n

theorem root_ok {n r : Nat} (h : Rn n r) (hn : n ≤ 1000000) (w : World) : Calls Tryz.prog 69 #[.int .i64 (n : Int)] w fun e w' => e = .returned (.tuple #[.agg #[.int .i64 (n : Int), .int .i64 (r : Int), .int .i64 0, .int .i64 1], .agg #[.int .i64 0, .int .i64 0]]) ∧ Below w.heap.size w w' := (rootOf_any (n : Int) w).mono (by
  rintro e w' ⟨v, f, rfl, ho, k⟩
  rcases ho with ⟨hd, _, _⟩ | ⟨s, hd, hs, _, _⟩ | ⟨n', r', e, hn', hR', rfl, rfl⟩
  · exfalso
    have := h.r1
    have := h.lo
    have := Nat.mul_le_mul h.r1 h.r1
    omega
  · exact absurd (show s * s = n by rw [← Int.natCast_mul] at hs; omega) (rn_nosq h)
  · obtain rfl : n' = n := by omega
    obtain rfl := rn_uniq hR' h
    exact ⟨rfl, k⟩)

set_option maxHeartbeats 4000000 in
theorem Unit_f3 (d : Int) (w : World) (hT : Tq w) (hB : Tb w) (hRo : ∀ w, Calls Tryz.prog 69 #[.int .i64 d] w fun e w' => e = .returned (.tuple #[.agg #[.int .i64 0, .int .i64 0, .int .i64 0, .int .i64 0], .agg #[.int .i64 3, .int .i64 0]]) ∧ Below w.heap.size w w') :
    Calls Tryz.prog 15 #[.int .i64 d] w fun e w' => e = unF 3 ∧ Below w.heap.size w w' := by
  have HRo : Hid (∀ w, Calls Tryz.prog 69 #[.int .i64 d] w fun e w' => e = .returned (.tuple #[.agg #[.int .i64 0, .int .i64 0, .int .i64 0, .int .i64 0], .agg #[.int .i64 3, .int .i64 0]]) ∧ Below w.heap.size w w') := hRo
  clear hRo
  unfold unF
  have HT : Hid (Tq w ∧ Tb w) := ⟨hT, hB⟩
  clear hT hB
  have HF0 : Hid (Cl w.heap.size [.int .i64 0, .int .i64 0] 25 (w.alloc (.cells #[.int .i64 0, .int .i64 0] 25))) := Cl.new [.int .i64 0, .int .i64 0] _ w
  go_enter Tryz.func15, Tryz.ntmps15
  go_wp2_with fail
  refine (HRo.out _).mono ?_
  rintro e w1 ⟨rfl, k1⟩
  have F1 := HF0.out.below k1
  have K1 : Below w.heap.size w w1 := ((Below.refl _ w).alloc (Nat.le_refl _) _).trans (k1.mono (by simp))
  have e0 : ∀ x : Obj, (w1.alloc x).cell? ⟨w.heap.size, 0, none⟩ = some (.int .i64 0) := fun x => (F1.alloc x).cell 0
  have e1 : ∀ x : Obj, (w1.alloc x).cell? ⟨w.heap.size, 1, none⟩ = some (.int .i64 0) := fun x => (F1.alloc x).cell 1
  have g0 : ∀ x : Obj, (w1.alloc x).frozen? ⟨w.heap.size, 0, none⟩ = false := fun x => (F1.alloc x).frozen 0
  have g1 : ∀ x : Obj, (w1.alloc x).frozen? ⟨w.heap.size, 1, none⟩ = false := fun x => (F1.alloc x).frozen 1
  have M0 : Pm w.heap.size w1.heap.size 0 0 0 0 3 0 w (((w1.alloc (.cells #[.int .i64 0, .int .i64 0, .int .i64 0, .int .i64 0] 110)).setCell ⟨w.heap.size, 0, none⟩ (.int .i64 3)).setCell ⟨w.heap.size, 1, none⟩ (.int .i64 0)) := pm_root F1 K1 0 0 0 0 3 0
  clear F1 K1 k1 HRo HF0
  go_wp2
  generalize hW2 : (((w1.alloc (.cells #[.int .i64 0, .int .i64 0, .int .i64 0, .int .i64 0] 110)).setCell ⟨w.heap.size, 0, none⟩ (.int .i64 3)).setCell ⟨w.heap.size, 1, none⟩ (.int .i64 0)) = W2 at M0 ⊢
  have f0 := M0.f.cell 0
  have f1 := M0.f.cell 1
  have f2 := M0.f.frozen 0
  have f3 := M0.f.frozen 1
  simp at f0 f1
  have HM0 : Hid (Pm w.heap.size w1.heap.size 0 0 0 0 3 0 w W2) := M0
  clear M0 hW2 e0 e1 g0 g1
  go_region
  all_goals
    go_wp2
    have Z := ((HM0.out.f.set 0 (.int .i64 3)).set 1 (.int .i64 0)).drew
    have KF := ((HM0.out.k.setCell (p := ⟨w.heap.size, 0, none⟩) (Nat.le_refl _) (.int .i64 3)).setCell (p := ⟨w.heap.size, 1, none⟩) (Nat.le_refl _) (.int .i64 0)).drew
    have z0 := Z.cell 0
    have z1 := Z.cell 1
    simp at z0 z1
    exact bodyPost_ret (v := .tuple #[.string ⟨#[]⟩, .string ⟨#[]⟩, .int .i64 0, .agg #[.int .i64 3, .int .i64 0]]) (by simp [results, Tryz.results15, go_sem, z0, z1]) rfl ⟨rfl, KF⟩

set_option maxHeartbeats 4000000 in
theorem Unit_f7 (d : Int) (w : World) (hT : Tq w) (hB : Tb w) (hRo : ∀ w, Calls Tryz.prog 69 #[.int .i64 d] w fun e w' => e = .returned (.tuple #[.agg #[.int .i64 0, .int .i64 0, .int .i64 0, .int .i64 0], .agg #[.int .i64 7, .int .i64 0]]) ∧ Below w.heap.size w w') :
    Calls Tryz.prog 15 #[.int .i64 d] w fun e w' => e = unF 7 ∧ Below w.heap.size w w' := by
  have HRo : Hid (∀ w, Calls Tryz.prog 69 #[.int .i64 d] w fun e w' => e = .returned (.tuple #[.agg #[.int .i64 0, .int .i64 0, .int .i64 0, .int .i64 0], .agg #[.int .i64 7, .int .i64 0]]) ∧ Below w.heap.size w w') := hRo
  clear hRo
  unfold unF
  have HT : Hid (Tq w ∧ Tb w) := ⟨hT, hB⟩
  clear hT hB
  have HF0 : Hid (Cl w.heap.size [.int .i64 0, .int .i64 0] 25 (w.alloc (.cells #[.int .i64 0, .int .i64 0] 25))) := Cl.new [.int .i64 0, .int .i64 0] _ w
  go_enter Tryz.func15, Tryz.ntmps15
  go_wp2_with fail
  refine (HRo.out _).mono ?_
  rintro e w1 ⟨rfl, k1⟩
  have F1 := HF0.out.below k1
  have K1 : Below w.heap.size w w1 := ((Below.refl _ w).alloc (Nat.le_refl _) _).trans (k1.mono (by simp))
  have e0 : ∀ x : Obj, (w1.alloc x).cell? ⟨w.heap.size, 0, none⟩ = some (.int .i64 0) := fun x => (F1.alloc x).cell 0
  have e1 : ∀ x : Obj, (w1.alloc x).cell? ⟨w.heap.size, 1, none⟩ = some (.int .i64 0) := fun x => (F1.alloc x).cell 1
  have g0 : ∀ x : Obj, (w1.alloc x).frozen? ⟨w.heap.size, 0, none⟩ = false := fun x => (F1.alloc x).frozen 0
  have g1 : ∀ x : Obj, (w1.alloc x).frozen? ⟨w.heap.size, 1, none⟩ = false := fun x => (F1.alloc x).frozen 1
  have M0 : Pm w.heap.size w1.heap.size 0 0 0 0 7 0 w (((w1.alloc (.cells #[.int .i64 0, .int .i64 0, .int .i64 0, .int .i64 0] 110)).setCell ⟨w.heap.size, 0, none⟩ (.int .i64 7)).setCell ⟨w.heap.size, 1, none⟩ (.int .i64 0)) := pm_root F1 K1 0 0 0 0 7 0
  clear F1 K1 k1 HRo HF0
  go_wp2
  generalize hW2 : (((w1.alloc (.cells #[.int .i64 0, .int .i64 0, .int .i64 0, .int .i64 0] 110)).setCell ⟨w.heap.size, 0, none⟩ (.int .i64 7)).setCell ⟨w.heap.size, 1, none⟩ (.int .i64 0)) = W2 at M0 ⊢
  have f0 := M0.f.cell 0
  have f1 := M0.f.cell 1
  have f2 := M0.f.frozen 0
  have f3 := M0.f.frozen 1
  simp at f0 f1
  have HM0 : Hid (Pm w.heap.size w1.heap.size 0 0 0 0 7 0 w W2) := M0
  clear M0 hW2 e0 e1 g0 g1
  go_region
  all_goals
    go_wp2
    have Z := ((HM0.out.f.set 0 (.int .i64 7)).set 1 (.int .i64 0)).drew
    have KF := ((HM0.out.k.setCell (p := ⟨w.heap.size, 0, none⟩) (Nat.le_refl _) (.int .i64 7)).setCell (p := ⟨w.heap.size, 1, none⟩) (Nat.le_refl _) (.int .i64 0)).drew
    have z0 := Z.cell 0
    have z1 := Z.cell 1
    simp at z0 z1
    exact bodyPost_ret (v := .tuple #[.string ⟨#[]⟩, .string ⟨#[]⟩, .int .i64 0, .agg #[.int .i64 7, .int .i64 0]]) (by simp [results, Tryz.results15, go_sem, z0, z1]) rfl ⟨rfl, KF⟩

set_option maxHeartbeats 4000000 in
theorem Unit_sq (n r : Nat) (w : World) (hT : Tq w) (hB : Tb w) (hR : Rn n r) (hn : n ≤ 1000000) (hs : SqF n) :
    Calls Tryz.prog 15 #[.int .i64 (n : Int)] w fun e w' => e = unF 7 ∧ Below w.heap.size w w' := by
  have HRo : Hid (∀ w, Calls Tryz.prog 69 #[.int .i64 (n : Int)] w fun e w' => e = .returned (.tuple #[.agg #[.int .i64 (n : Int), .int .i64 (r : Int), .int .i64 0, .int .i64 1], .agg #[.int .i64 0, .int .i64 0]]) ∧ Below w.heap.size w w') := root_ok hR hn
  have HN : Hid (1 ≤ n ∧ n ≤ 1000000) := ⟨by have := hR.lo; omega, hn⟩
  have HS : Hid (SqF n) := hs
  clear hR hn hs
  unfold unF
  have HT : Hid (Tq w ∧ Tb w) := ⟨hT, hB⟩
  clear hT hB
  have HF0 : Hid (Cl w.heap.size [.int .i64 0, .int .i64 0] 25 (w.alloc (.cells #[.int .i64 0, .int .i64 0] 25))) := Cl.new [.int .i64 0, .int .i64 0] _ w
  go_enter Tryz.func15, Tryz.ntmps15
  go_wp2_with fail
  refine (HRo.out _).mono ?_
  rintro e w1 ⟨rfl, k1⟩
  have F1 := HF0.out.below k1
  have K1 : Below w.heap.size w w1 := ((Below.refl _ w).alloc (Nat.le_refl _) _).trans (k1.mono (by simp))
  have e0 : ∀ x : Obj, (w1.alloc x).cell? ⟨w.heap.size, 0, none⟩ = some (.int .i64 0) := fun x => (F1.alloc x).cell 0
  have e1 : ∀ x : Obj, (w1.alloc x).cell? ⟨w.heap.size, 1, none⟩ = some (.int .i64 0) := fun x => (F1.alloc x).cell 1
  have g0 : ∀ x : Obj, (w1.alloc x).frozen? ⟨w.heap.size, 0, none⟩ = false := fun x => (F1.alloc x).frozen 0
  have g1 : ∀ x : Obj, (w1.alloc x).frozen? ⟨w.heap.size, 1, none⟩ = false := fun x => (F1.alloc x).frozen 1
  have M0 : Pm w.heap.size w1.heap.size n r 0 1 0 0 w (((w1.alloc (.cells #[.int .i64 (n : Int), .int .i64 (r : Int), .int .i64 0, .int .i64 1] 110)).setCell ⟨w.heap.size, 0, none⟩ (.int .i64 0)).setCell ⟨w.heap.size, 1, none⟩ (.int .i64 0)) := pm_root F1 K1 n r 0 1 0 0
  have hne1 : w1.heap.size ≠ w.heap.size := by have := M0.h5; omega
  have hne2 : w.heap.size ≠ w1.heap.size := by have := M0.h5; omega
  clear F1 K1 k1 HRo HF0
  go_wp2_with fail
  generalize hW2 : (((w1.alloc (.cells #[.int .i64 (n : Int), .int .i64 (r : Int), .int .i64 0, .int .i64 1] 110)).setCell ⟨w.heap.size, 0, none⟩ (.int .i64 0)).setCell ⟨w.heap.size, 1, none⟩ (.int .i64 0)) = W2 at M0 ⊢
  clear hW2 e0 e1 g0 g1
  refine (Moebius_any n HN.out.1 HN.out.2 W2 (HT.out.2.below M0.k)).mono ?_
  rintro e w3 ⟨z, rfl, hz, k3⟩
  obtain rfl := hz.2 HS.out
  clear hz
  have M3 := M0.below k3
  have ka := ((Below.refl w3.heap.size w3).alloc (Nat.le_refl _) (.cells #[.int .i64 0, .int .i64 0] 25))
  have M4 := M3.below ka
  obtain ⟨W4, hW4⟩ : ∃ W4, W4 = w3.alloc (.cells #[.int .i64 0, .int .i64 0] 25) := ⟨_, rfl⟩
  have HW4 : Hid (W4 = w3.alloc (.cells #[.int .i64 0, .int .i64 0] 25)) := hW4
  rw [← hW4] at M4
  have HM4 : Hid (Pm w.heap.size w1.heap.size n r 0 1 0 0 w W4) := M4
  clear M0 M3 M4 ka k3 hW4
  go_upto_region 6 with fail
  rw [← HW4.out]
  have f0 := HM4.out.f.cell 0
  have f1 := HM4.out.f.cell 1
  have f2 := HM4.out.f.frozen 0
  have f3 := HM4.out.f.frozen 1
  simp at f0 f1
  clear HW4
  go_wp2
  have Z := ((HM4.out.f.set 0 (.int .i64 7)).set 1 (.int .i64 0))
  have KF := ((HM4.out.k.setCell (p := ⟨w.heap.size, 0, none⟩) (Nat.le_refl _) (.int .i64 7)).setCell (p := ⟨w.heap.size, 1, none⟩) (Nat.le_refl _) (.int .i64 0))
  have z0 := Z.cell 0
  have z1 := Z.cell 1
  simp at z0 z1
  exact bodyPost_ret (v := .tuple #[.string ⟨#[]⟩, .string ⟨#[]⟩, .int .i64 0, .agg #[.int .i64 7, .int .i64 0]]) (by simp [results, Tryz.results15, go_sem, z0, z1]) rfl ⟨rfl, KF⟩


end Go.Proofs.YtfbgblidlabipaaGreatDoor
