/- The reference's FormFault. -/
import Derived.Test.YtijkanilpblogaeQfA
import Derived.Test.YtijkanilpblogaeRegionG
set_option linter.unusedSimpArgs false
set_option linter.unusedVariables false
set_option maxRecDepth 100000
namespace Go.Proofs.Ytijkanilpblogae
open Go.RowKit

def okc (x : Int) : Bool := decide (-1000000 ≤ x) && decide (x ≤ 1000000)
/-- What FormFault says: code and place. -/
def ffault (f : Qf) : Int × Int :=
  if okc f.a = false then (3, 0) else if okc f.b = false then (3, 1) else if okc f.c = false then (3, 2)
  else if f.a < 1 ∨ 0 ≤ f.disc then (7, 0) else if Int.gcd (Int.gcd f.a f.b) f.c ≠ 1 then (6, 0) else (0, 0)

theorem okc_true {x : Int} (h : okc x = true) : -1000000 ≤ x ∧ x ≤ 1000000 := by
  unfold okc at h; simp at h; exact h
theorem okc_gt {x : Int} (h : okc x = true) : decide (1000000 < x) = false ∧ decide (x < -1000000) = false := by
  have := okc_true h
  exact ⟨decide_eq_false (by omega), decide_eq_false (by omega)⟩

set_option maxHeartbeats 4000000 in
theorem refFormFault_any (f : Qf) (w : World) : Calls Try.prog 14 #[f.v] w fun e w' => e = .returned (.agg #[.int .i64 (ffault f).1, .int .i64 (ffault f).2]) ∧ Below w.heap.size w w' := by
  obtain ⟨c0, d0, hcd⟩ : ∃ c d, ffault f = (c, d) := ⟨_, _, rfl⟩
  rw [hcd]
  have HCD : Hid (ffault f = (c0, d0)) := hcd
  clear hcd
  unfold Qf.v
  go_enter Try.func14, Try.ntmps14
  go_wp2
  obtain ⟨W1, hW1⟩ : ∃ W1, W1 = ((w.alloc (.cells #[.int .i64 f.a, .int .i64 f.b, .int .i64 f.c] 32)).alloc (.cells #[.int .i64 0, .int .i64 0] 24)).alloc (.cells #[.int .i64 f.a, .int .i64 f.b, .int .i64 f.c] 3) := ⟨_, rfl⟩
  have HC0 : Hid (Cl w.heap.size [.int .i64 f.a, .int .i64 f.b, .int .i64 f.c] 32 W1 ∧ Cl (w.heap.size + 1) [.int .i64 0, .int .i64 0] 24 W1 ∧ Cl (w.heap.size + 1 + 1) [.int .i64 f.a, .int .i64 f.b, .int .i64 f.c] 3 W1) := by
    rw [hW1]
    refine ⟨((Cl.new _ _ w).alloc _).alloc _, ?_, ?_⟩
    · have h := (Cl.new [.int .i64 0, .int .i64 0] 24 (w.alloc (.cells #[.int .i64 f.a, .int .i64 f.b, .int .i64 f.c] 32))).alloc (.cells #[.int .i64 f.a, .int .i64 f.b, .int .i64 f.c] 3)
      rw [World.size_alloc] at h; exact h
    · have h := Cl.new [.int .i64 f.a, .int .i64 f.b, .int .i64 f.c] 3 ((w.alloc (.cells #[.int .i64 f.a, .int .i64 f.b, .int .i64 f.c] 32)).alloc (.cells #[.int .i64 0, .int .i64 0] 24))
      rw [World.size_alloc, World.size_alloc] at h; exact h
  have HB0 : Hid (Below w.heap.size w W1) := by show Below _ _ _; rw [hW1]; exact Below.alloc (Below.alloc (Below.alloc (Below.refl _ _) (Nat.le_refl _) _) (by simp) _) (by simp; omega) _
  rw [← hW1]
  clear hW1
  go_loopw [4] (fun iv wx => ∃ i : Nat, i ≤ 3 ∧ iv = .int .i64 i ∧ Hid ((0 < i → okc f.a = true) ∧ (1 < i → okc f.b = true) ∧ (2 < i → okc f.c = true)) ∧ Hid (Below w.heap.size w wx) ∧ Hid (Cl w.heap.size [.int .i64 f.a, .int .i64 f.b, .int .i64 f.c] 32 wx ∧ Cl (w.heap.size + 1) [.int .i64 0, .int .i64 0] 24 wx ∧ Cl (w.heap.size + 1 + 1) [.int .i64 f.a, .int .i64 f.b, .int .i64 f.c] 3 wx)) (fun iv _ => 3 - (intOf iv).toNat)
  case atStart => exact ⟨0, by omega, rfl, ⟨fun h => by omega, fun h => by omega, fun h => by omega⟩, HB0.out, HC0.out⟩
  case round =>
    obtain ⟨i, hi, rfl, HO, HB, HC⟩ := hrel
    clear HB0 HC0
    have hi4 : i = 0 ∨ i = 1 ∨ i = 2 ∨ i = 3 := by omega
    rcases hi4 with rfl | rfl | rfl | rfl
    · have l0 := HC.out.2.2.cell 0
      have z1 := HC.out.2.1.lt
      simp at l0
      rcases Bool.eq_false_or_eq_true (okc f.a) with ha | ha
      · have t1 := (okc_gt ha).1
        have t2 := (okc_gt ha).2
        have HKa : Hid (okc f.a = true) := ha
        clear ha
        go_wp2
        go_roundw
        case rel => exact ⟨1, by omega, rfl, ⟨fun _ => HKa.out, fun h => by omega, fun h => by omega⟩, HB.out, HC.out⟩
        case measure => simp [intOf]
      · have hx : 1000000 < f.a ∨ f.a < -1000000 := by unfold okc at ha; simp at ha; omega
        have hres : c0 = 3 ∧ d0 = 0 := by
          have h := HCD.out
          unfold ffault at h
          rw [if_pos ha] at h
          cases h; exact ⟨rfl, rfl⟩
        obtain ⟨rfl, rfl⟩ := hres
        rcases hx with hx | hx
        · have t1 : decide (1000000 < f.a) = true := decide_eq_true hx
          clear hx ha
          go_wp2_with fail
          refine (F_any 3 0 _).mono ?_
          rintro e w2 ⟨rfl, k2⟩
          have F2 := HC.out.2.1.below k2
          have q0 := F2.cell 0
          have q1 := F2.cell 1
          have q2 := F2.frozen 0
          have q3 := F2.frozen 1
          have q4 := F2.lt
          have K2 : Hid (Below w.heap.size w w2) := HB.out.trans (k2.mono HB.out.size)
          simp at q0 q1
          clear k2 F2
          go_wp2
          refine bodyPost_ret (v := .agg #[.int .i64 _, .int .i64 _]) (by simp [results, Try.results14, go_sem, q0, q1, q4]) rfl ⟨rfl, ?_⟩
          exact (K2.out.setCell (by show w.heap.size ≤ w.heap.size + 1; omega) _).setCell (by show w.heap.size ≤ w.heap.size + 1; omega) _
        · have t1 : decide (1000000 < f.a) = false := decide_eq_false (by omega)
          have t2 : decide (f.a < -1000000) = true := decide_eq_true hx
          clear hx ha
          go_wp2_with fail
          refine (F_any 3 0 _).mono ?_
          rintro e w2 ⟨rfl, k2⟩
          have F2 := HC.out.2.1.below k2
          have q0 := F2.cell 0
          have q1 := F2.cell 1
          have q2 := F2.frozen 0
          have q3 := F2.frozen 1
          have q4 := F2.lt
          have K2 : Hid (Below w.heap.size w w2) := HB.out.trans (k2.mono HB.out.size)
          simp at q0 q1
          clear k2 F2
          go_wp2
          refine bodyPost_ret (v := .agg #[.int .i64 _, .int .i64 _]) (by simp [results, Try.results14, go_sem, q0, q1, q4]) rfl ⟨rfl, ?_⟩
          exact (K2.out.setCell (by show w.heap.size ≤ w.heap.size + 1; omega) _).setCell (by show w.heap.size ≤ w.heap.size + 1; omega) _
    · have l0 := HC.out.2.2.cell 1
      have z1 := HC.out.2.1.lt
      simp at l0
      have ha : okc f.a = true := HO.out.1 (by omega)
      rcases Bool.eq_false_or_eq_true (okc f.b) with hb | hb
      · have t1 := (okc_gt hb).1
        have t2 := (okc_gt hb).2
        have HKb : Hid (okc f.b = true) := hb
        clear hb
        go_wp2
        go_roundw
        case rel => exact ⟨2, by omega, rfl, ⟨fun _ => HO.out.1 (by omega), fun _ => HKb.out, fun h => by omega⟩, HB.out, HC.out⟩
        case measure => simp [intOf]
      · have hx : 1000000 < f.b ∨ f.b < -1000000 := by unfold okc at hb; simp at hb; omega
        have hres : c0 = 3 ∧ d0 = 1 := by
          have h := HCD.out
          unfold ffault at h
          rw [if_neg (by simp [ha]), if_pos hb] at h
          cases h; exact ⟨rfl, rfl⟩
        obtain ⟨rfl, rfl⟩ := hres
        rcases hx with hx | hx
        · have t1 : decide (1000000 < f.b) = true := decide_eq_true hx
          clear hx hb
          go_wp2_with fail
          refine (F_any 3 1 _).mono ?_
          rintro e w2 ⟨rfl, k2⟩
          have F2 := HC.out.2.1.below k2
          have q0 := F2.cell 0
          have q1 := F2.cell 1
          have q2 := F2.frozen 0
          have q3 := F2.frozen 1
          have q4 := F2.lt
          have K2 : Hid (Below w.heap.size w w2) := HB.out.trans (k2.mono HB.out.size)
          simp at q0 q1
          clear k2 F2
          go_wp2
          refine bodyPost_ret (v := .agg #[.int .i64 _, .int .i64 _]) (by simp [results, Try.results14, go_sem, q0, q1, q4]) rfl ⟨rfl, ?_⟩
          exact (K2.out.setCell (by show w.heap.size ≤ w.heap.size + 1; omega) _).setCell (by show w.heap.size ≤ w.heap.size + 1; omega) _
        · have t1 : decide (1000000 < f.b) = false := decide_eq_false (by omega)
          have t2 : decide (f.b < -1000000) = true := decide_eq_true hx
          clear hx hb
          go_wp2_with fail
          refine (F_any 3 1 _).mono ?_
          rintro e w2 ⟨rfl, k2⟩
          have F2 := HC.out.2.1.below k2
          have q0 := F2.cell 0
          have q1 := F2.cell 1
          have q2 := F2.frozen 0
          have q3 := F2.frozen 1
          have q4 := F2.lt
          have K2 : Hid (Below w.heap.size w w2) := HB.out.trans (k2.mono HB.out.size)
          simp at q0 q1
          clear k2 F2
          go_wp2
          refine bodyPost_ret (v := .agg #[.int .i64 _, .int .i64 _]) (by simp [results, Try.results14, go_sem, q0, q1, q4]) rfl ⟨rfl, ?_⟩
          exact (K2.out.setCell (by show w.heap.size ≤ w.heap.size + 1; omega) _).setCell (by show w.heap.size ≤ w.heap.size + 1; omega) _
    · have l0 := HC.out.2.2.cell 2
      have z1 := HC.out.2.1.lt
      simp at l0
      have ha : okc f.a = true := HO.out.1 (by omega)
      have hb : okc f.b = true := HO.out.2.1 (by omega)
      rcases Bool.eq_false_or_eq_true (okc f.c) with hc | hc
      · have t1 := (okc_gt hc).1
        have t2 := (okc_gt hc).2
        have HKc : Hid (okc f.c = true) := hc
        clear hc
        go_wp2
        go_roundw
        case rel => exact ⟨3, by omega, rfl, ⟨fun _ => HO.out.1 (by omega), fun _ => HO.out.2.1 (by omega), fun _ => HKc.out⟩, HB.out, HC.out⟩
        case measure => simp [intOf]
      · have hx : 1000000 < f.c ∨ f.c < -1000000 := by unfold okc at hc; simp at hc; omega
        have hres : c0 = 3 ∧ d0 = 2 := by
          have h := HCD.out
          unfold ffault at h
          rw [if_neg (by simp [ha]), if_neg (by simp [hb]), if_pos hc] at h
          cases h; exact ⟨rfl, rfl⟩
        obtain ⟨rfl, rfl⟩ := hres
        rcases hx with hx | hx
        · have t1 : decide (1000000 < f.c) = true := decide_eq_true hx
          clear hx hc
          go_wp2_with fail
          refine (F_any 3 2 _).mono ?_
          rintro e w2 ⟨rfl, k2⟩
          have F2 := HC.out.2.1.below k2
          have q0 := F2.cell 0
          have q1 := F2.cell 1
          have q2 := F2.frozen 0
          have q3 := F2.frozen 1
          have q4 := F2.lt
          have K2 : Hid (Below w.heap.size w w2) := HB.out.trans (k2.mono HB.out.size)
          simp at q0 q1
          clear k2 F2
          go_wp2
          refine bodyPost_ret (v := .agg #[.int .i64 _, .int .i64 _]) (by simp [results, Try.results14, go_sem, q0, q1, q4]) rfl ⟨rfl, ?_⟩
          exact (K2.out.setCell (by show w.heap.size ≤ w.heap.size + 1; omega) _).setCell (by show w.heap.size ≤ w.heap.size + 1; omega) _
        · have t1 : decide (1000000 < f.c) = false := decide_eq_false (by omega)
          have t2 : decide (f.c < -1000000) = true := decide_eq_true hx
          clear hx hc
          go_wp2_with fail
          refine (F_any 3 2 _).mono ?_
          rintro e w2 ⟨rfl, k2⟩
          have F2 := HC.out.2.1.below k2
          have q0 := F2.cell 0
          have q1 := F2.cell 1
          have q2 := F2.frozen 0
          have q3 := F2.frozen 1
          have q4 := F2.lt
          have K2 : Hid (Below w.heap.size w w2) := HB.out.trans (k2.mono HB.out.size)
          simp at q0 q1
          clear k2 F2
          go_wp2
          refine bodyPost_ret (v := .agg #[.int .i64 _, .int .i64 _]) (by simp [results, Try.results14, go_sem, q0, q1, q4]) rfl ⟨rfl, ?_⟩
          exact (K2.out.setCell (by show w.heap.size ≤ w.heap.size + 1; omega) _).setCell (by show w.heap.size ≤ w.heap.size + 1; omega) _
    · have ha := HO.out.1 (by omega)
      have hb := HO.out.2.1 (by omega)
      have hc := HO.out.2.2 (by omega)
      have f0 := HC.out.1.cell 0
      have f1 := HC.out.1.cell 1
      have f2 := HC.out.1.cell 2
      simp at f0 f1 f2
      have HU : Hid (f.upto 1000000) := by
        have h1 := okc_true ha; have h2 := okc_true hb; have h3 := okc_true hc
        exact ⟨h1.1, h1.2, h2.1, h2.2, h3.1, h3.2⟩
      by_cases hA : f.a < 1
      · have t1 : decide (f.a < 1) = true := decide_eq_true hA
        have hres : c0 = 7 ∧ d0 = 0 := by
          have h := HCD.out
          unfold ffault at h
          rw [if_neg (by simp [ha]), if_neg (by simp [hb]), if_neg (by simp [hc]), if_pos (.inl hA)] at h
          cases h; exact ⟨rfl, rfl⟩
        obtain ⟨rfl, rfl⟩ := hres
        clear hA ha hb hc
        go_wp2_with fail
        refine (F_any 7 0 _).mono ?_
        rintro e w2 ⟨rfl, k2⟩
        have F2 := HC.out.2.1.below k2
        have q0 := F2.cell 0
        have q1 := F2.cell 1
        have q2 := F2.frozen 0
        have q3 := F2.frozen 1
        have q4 := F2.lt
        have K2 : Hid (Below w.heap.size w w2) := HB.out.trans (k2.mono HB.out.size)
        simp at q0 q1
        clear k2 F2
        go_wp2
        refine bodyPost_ret (v := .agg #[.int .i64 _, .int .i64 _]) (by simp [results, Try.results14, go_sem, q0, q1, q4]) rfl ⟨rfl, ?_⟩
        exact (K2.out.setCell (by show w.heap.size ≤ w.heap.size + 1; omega) _).setCell (by show w.heap.size ≤ w.heap.size + 1; omega) _
      · have t1 : decide (f.a < 1) = false := decide_eq_false hA
        by_cases hD : 0 ≤ f.disc
        · have t2 : decide (0 ≤ f.disc) = true := decide_eq_true hD
          have hres : c0 = 7 ∧ d0 = 0 := by
            have h := HCD.out
            unfold ffault at h
            rw [if_neg (by simp [ha]), if_neg (by simp [hb]), if_neg (by simp [hc]), if_pos (.inr hD)] at h
            cases h; exact ⟨rfl, rfl⟩
          obtain ⟨rfl, rfl⟩ := hres
          clear hA ha hb hc hD
          go_wp2_with fail
          refine (refDisc_any f _ HU.out).mono ?_
          rintro e w3 ⟨rfl, k3⟩
          have HC3 : Hid (Cl w.heap.size [.int .i64 f.a, .int .i64 f.b, .int .i64 f.c] 32 w3 ∧ Cl (w.heap.size + 1) [.int .i64 0, .int .i64 0] 24 w3 ∧ Cl (w.heap.size + 1 + 1) [.int .i64 f.a, .int .i64 f.b, .int .i64 f.c] 3 w3) := ⟨HC.out.1.below k3, HC.out.2.1.below k3, HC.out.2.2.below k3⟩
          have HB3 : Hid (Below w.heap.size w w3) := HB.out.trans (k3.mono HB.out.size)
          clear k3 HC HB f0 f1 f2
          have HC := HC3
          have HB := HB3
          clear HC3 HB3
          go_wp2_with fail
          refine (F_any 7 0 _).mono ?_
          rintro e w2 ⟨rfl, k2⟩
          have F2 := HC.out.2.1.below k2
          have q0 := F2.cell 0
          have q1 := F2.cell 1
          have q2 := F2.frozen 0
          have q3 := F2.frozen 1
          have q4 := F2.lt
          have K2 : Hid (Below w.heap.size w w2) := HB.out.trans (k2.mono HB.out.size)
          simp at q0 q1
          clear k2 F2
          go_wp2
          refine bodyPost_ret (v := .agg #[.int .i64 _, .int .i64 _]) (by simp [results, Try.results14, go_sem, q0, q1, q4]) rfl ⟨rfl, ?_⟩
          exact (K2.out.setCell (by show w.heap.size ≤ w.heap.size + 1; omega) _).setCell (by show w.heap.size ≤ w.heap.size + 1; omega) _
        · have t2 : decide (0 ≤ f.disc) = false := decide_eq_false hD
          have hno : ¬ (f.a < 1 ∨ 0 ≤ f.disc) := by omega
          have HAB : Hid ((c0 = 6 ∧ d0 = 0 ∧ Int.gcd (Int.gcd f.a f.b) f.c ≠ 1) ∨ (c0 = 0 ∧ d0 = 0 ∧ Int.gcd (Int.gcd f.a f.b) f.c = 1)) := by
            have h := HCD.out
            unfold ffault at h
            rw [if_neg (by simp [ha]), if_neg (by simp [hb]), if_neg (by simp [hc]), if_neg hno] at h
            split at h
            · cases h; exact .inl ⟨rfl, rfl, by assumption⟩
            · cases h; exact .inr ⟨rfl, rfl, by omega⟩
          clear hA ha hb hc hD hno
          have HG1 : Hid (∀ w, Calls Try.prog 35 #[.int .i64 f.a, .int .i64 f.b] w fun e w' => e = .returned (.int .i64 (Int.gcd f.a f.b : Int)) ∧ w' = w) := fun w => by
            have h := HU.out
            exact refGcd_nat f.a.natAbs f.b.natAbs w (by have := h.1; have := h.2.1; omega) (by have := h.2.2.1; have := h.2.2.2.1; omega) _ _ rfl rfl
          have hle : Int.gcd f.a f.b ≤ 1000000 := by
            have h := HU.out
            have : Int.gcd f.a f.b ∣ f.a.natAbs := Nat.gcd_dvd_left ..
            have h0 : 0 < f.a.natAbs := by
              have := of_decide_eq_false t1; omega
            have := Nat.le_of_dvd h0 this
            have := h.1; have := h.2.1
            omega
          obtain ⟨G1, hG1⟩ : ∃ G1, G1 = Int.gcd f.a f.b := ⟨_, rfl⟩
          rw [← hG1] at HG1 HAB hle
          have HG2 : Hid (∀ w, Calls Try.prog 35 #[.int .i64 G1, .int .i64 f.c] w fun e w' => e = .returned (.int .i64 (Int.gcd G1 f.c : Int)) ∧ w' = w) := fun w => by
            have h := HU.out
            exact refGcd_nat G1 f.c.natAbs w (by omega) (by have := h.2.2.2.2.1; have := h.2.2.2.2.2; omega) _ _ (by simp) rfl
          obtain ⟨G2, hG2⟩ : ∃ G2, G2 = Int.gcd G1 f.c := ⟨_, rfl⟩
          rw [← hG2] at HG2 HAB
          clear hG1 hG2 hle
          go_wp2_with fail
          refine (refDisc_any f _ HU.out).mono ?_
          rintro e w3 ⟨rfl, k3⟩
          have HC3 : Hid (Cl w.heap.size [.int .i64 f.a, .int .i64 f.b, .int .i64 f.c] 32 w3 ∧ Cl (w.heap.size + 1) [.int .i64 0, .int .i64 0] 24 w3 ∧ Cl (w.heap.size + 1 + 1) [.int .i64 f.a, .int .i64 f.b, .int .i64 f.c] 3 w3) := ⟨HC.out.1.below k3, HC.out.2.1.below k3, HC.out.2.2.below k3⟩
          have HB3 : Hid (Below w.heap.size w w3) := HB.out.trans (k3.mono HB.out.size)
          clear k3 HC HB f0 f1 f2
          have f0 := HC3.out.1.cell 0
          have f1 := HC3.out.1.cell 1
          have f2 := HC3.out.1.cell 2
          simp at f0 f1 f2
          rcases HAB.out with ⟨rfl, rfl, hg⟩ | ⟨rfl, rfl, hg⟩
          · have t3 : ((G2 : Int) != 1) = true := by rw [bne_iff_ne]; omega
            clear hg
            go_wp2_with fail
            go_quiet ((go_at_call 35; first | with_reducible exact Calls.quiet_of_same (HG1.out _) | with_reducible exact Calls.quiet_of_same (HG2.out _)))
            have HC : Hid (Cl w.heap.size [.int .i64 f.a, .int .i64 f.b, .int .i64 f.c] 32 (w3.drewN nq) ∧ Cl (w.heap.size + 1) [.int .i64 0, .int .i64 0] 24 (w3.drewN nq) ∧ Cl (w.heap.size + 1 + 1) [.int .i64 f.a, .int .i64 f.b, .int .i64 f.c] 3 (w3.drewN nq)) := ⟨HC3.out.1.drewN, HC3.out.2.1.drewN, HC3.out.2.2.drewN⟩
            have HB : Hid (Below w.heap.size w (w3.drewN nq)) := below_drewN' HB3.out
            clear HC3 HB3 f0 f1 f2
            go_wp2_with fail
            refine (F_any 6 0 _).mono ?_
            rintro e w2 ⟨rfl, k2⟩
            have F2 := HC.out.2.1.below k2
            have q0 := F2.cell 0
            have q1 := F2.cell 1
            have q2 := F2.frozen 0
            have q3 := F2.frozen 1
            have q4 := F2.lt
            have K2 : Hid (Below w.heap.size w w2) := HB.out.trans (k2.mono HB.out.size)
            simp at q0 q1
            clear k2 F2
            go_wp2
            refine bodyPost_ret (v := .agg #[.int .i64 _, .int .i64 _]) (by simp [results, Try.results14, go_sem, q0, q1, q4]) rfl ⟨rfl, ?_⟩
            exact (K2.out.setCell (by show w.heap.size ≤ w.heap.size + 1; omega) _).setCell (by show w.heap.size ≤ w.heap.size + 1; omega) _
          · have t3 : ((G2 : Int) != 1) = false := by simp; omega
            clear hg
            go_wp2_with fail
            go_quiet ((go_at_call 35; first | with_reducible exact Calls.quiet_of_same (HG1.out _) | with_reducible exact Calls.quiet_of_same (HG2.out _)))
            have q0 := HC3.out.2.1.cell 0
            have q1 := HC3.out.2.1.cell 1
            have q2 := HC3.out.2.1.frozen 0
            have q3 := HC3.out.2.1.frozen 1
            have q4 := HC3.out.2.1.lt
            simp at q0 q1
            go_wp2
            refine bodyPost_ret (v := .agg #[.int .i64 0, .int .i64 0]) (by simp [results, Try.results14, go_sem, q0, q1, q4]) rfl ⟨rfl, ?_⟩
            exact ((below_drewN' HB3.out).setCell (by show w.heap.size ≤ w.heap.size + 1; omega) _).setCell (by show w.heap.size ≤ w.heap.size + 1; omega) _

end Go.Proofs.Ytijkanilpblogae
