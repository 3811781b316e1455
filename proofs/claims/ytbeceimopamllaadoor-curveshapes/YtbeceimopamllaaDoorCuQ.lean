/- The law's curveBegun. -/
import Derived.Test.YtbeceimopamllaaDoorCuO
set_option linter.unusedSimpArgs false
set_option linter.unusedVariables false
set_option maxRecDepth 100000
namespace Go.Proofs.YtbeceimopamllaaDoor
open Go.RowKit EC

def ordB (p a : Int) (q : Pn) (k : Nat) : Bool := decide (0 < k) && (EC.mu p a q k).far && (List.range k).all (fun j => j == 0 || !(EC.mu p a q j).far)
theorem ordB_od {P : Nat} {a b : Int} (hc : Cv P a b) {q : Pn} {k : Nat} (hq : On P a b q) (h : ordB P a q k = true) : Od P a q k := by
  haveI := hc.nz
  unfold ordB at h
  simp only [Bool.and_eq_true, decide_eq_true_eq, List.all_eq_true, List.mem_range, Bool.or_eq_true, beq_iff_eq, Bool.not_eq_true'] at h
  obtain ⟨⟨h1, h2⟩, h3⟩ := h
  refine ⟨h1, far_of (mu_on hc hq k) h2, fun j j0 jk e => ?_⟩
  rcases h3 j jk with h | h
  · omega
  · rw [e] at h; cases h

def exB (P : Nat) (a b : Int) (l : List Pn) (N K : List Nat) : Bool :=
  (N.getD 0 0 == 1) && (List.range l.length).all fun i => hasB P a b (l.getD i farP) && (N.getD (i + 1) 0 == N.getD i 0 * K.getD i 0) && ordB P a (mz P a (l.getD i farP) (N.getD i 0 : Nat)) (K.getD i 0) && decide (K.getD i 0 ≤ 1000) && decide (N.getD (i + 1) 0 ≤ 1000)
theorem exB_ex {P : Nat} {a b : Int} (hc : Cv P a b) {l : List Pn} {N K : List Nat} (h : exB P a b l N K = true) : Ex P a b l (fun i => N.getD i 0) (fun i => K.getD i 0) := by
  haveI := hc.nz
  unfold exB at h
  simp only [Bool.and_eq_true, decide_eq_true_eq, List.all_eq_true, List.mem_range, beq_iff_eq] at h
  obtain ⟨h0, h⟩ := h
  refine ⟨h0, fun i hi => (h i hi).1.1.1.2, fun i hi => hasB_on.1 (h i hi).1.1.1.1, fun i hi => ordB_od hc (mz_on hc (hasB_on.1 (h i hi).1.1.1.1) _) (h i hi).1.1.2, fun i hi => ?_, fun i hi => ?_⟩
  · have := (h i hi).1.2
    omega
  · rcases i with _ | i
    · omega
    · have := (h i (by omega)).2
      omega

theorem pr5 : Pr 5 := ⟨by omega, fun d hd => by
  have h1 := Nat.le_of_dvd (by omega) hd
  match d, h1, hd with
  | 0, _, hd => omega
  | 1, _, _ => exact .inl rfl
  | 2, _, hd => omega
  | 3, _, hd => omega
  | 4, _, hd => omega
  | 5, _, _ => exact .inr rfl⟩
theorem pr7 : Pr 7 := ⟨by omega, fun d hd => by
  have h1 := Nat.le_of_dvd (by omega) hd
  match d, h1, hd with
  | 0, _, hd => omega
  | 1, _, _ => exact .inl rfl
  | 2, _, hd => omega
  | 3, _, hd => omega
  | 4, _, hd => omega
  | 5, _, hd => omega
  | 6, _, hd => omega
  | 7, _, _ => exact .inr rfl⟩
theorem cv5 : Cv 5 1 1 := ⟨pr5, by omega, by omega, by omega, by omega, by omega, by omega, by decide⟩
theorem cv7 : Cv 7 0 2 := ⟨pr7, by omega, by omega, by omega, by omega, by omega, by omega, by decide⟩

theorem len5 : (pts 5 1 1 5).length = 9 := by decide +kernel
theorem len7 : (pts 7 0 2 7).length = 9 := by decide +kernel
theorem ex5 : exB 5 1 1 (pts 5 1 1 5) [1, 1, 9, 9, 9, 9, 9, 9, 9, 9] [1, 9, 1, 1, 1, 1, 1, 1, 1] = true := by decide +kernel
theorem ex7 : exB 7 0 2 (pts 7 0 2 7) [1, 1, 3, 3, 3, 3, 3, 3, 3, 3] [1, 3, 1, 1, 1, 1, 1, 1, 1] = true := by decide +kernel

set_option maxHeartbeats 2000000 in
theorem curveBegun_any (w : World) (hT : Tb w) :
    Calls Tryd.prog 10 #[] w fun e w' => e = .returned (.bool true) ∧ Below w.heap.size w w' := by
  have H5 : Hid (∀ w, Tb w → Calls Tryd.prog 23 #[.int .i64 5, .int .i64 1, .int .i64 1] w fun e w' => e = .returned (.tuple #[.int .i64 1, .int .i64 9, .agg #[.int .i64 0, .int .i64 0]]) ∧ Below w.heap.size w w') := fun w hT =>
    Shape_ok 5 1 1 _ _ 1 9 w cv5 (exB_ex cv5 ex5) (by rw [len5]; rfl) (by rw [len5]) hT
  have H7 : Hid (∀ w, Tb w → Calls Tryd.prog 23 #[.int .i64 7, .int .i64 0, .int .i64 2] w fun e w' => e = .returned (.tuple #[.int .i64 3, .int .i64 3, .agg #[.int .i64 0, .int .i64 0]]) ∧ Below w.heap.size w w') := fun w hT =>
    Shape_ok 7 0 2 _ _ 3 3 w cv7 (exB_ex cv7 ex7) (by rw [len7]; rfl) (by rw [len7]) hT
  have HT : Hid (Tb w) := hT
  clear hT
  go_enter Tryd.func10, Tryd.ntmps10
  go_wp2_with fail
  refine (H5.out _ HT.out).mono ?_
  rintro e w1 ⟨rfl, k1⟩
  have T1 : Tb (w1.alloc (.cells #[.int .i64 0, .int .i64 0] 23)) := (HT.out.below k1).alloc _
  have HT1 : Hid (Tb (w1.alloc (.cells #[.int .i64 0, .int .i64 0] 23))) := T1
  have C1 : Cl w1.heap.size [.int .i64 0, .int .i64 0] 23 (w1.alloc (.cells #[.int .i64 0, .int .i64 0] 23)) := Cl.new _ _ w1
  have K1 : Below w.heap.size w (w1.alloc (.cells #[.int .i64 0, .int .i64 0] 23)) := k1.alloc k1.size _
  clear T1 k1
  go_wp2_with fail
  refine (H7.out _ HT1.out).mono ?_
  rintro e w2 ⟨rfl, k2⟩
  have c0 : ∀ x : Obj, (w2.alloc x).cell? ⟨w1.heap.size, 0, none⟩ = some (.int .i64 0) := fun x => ((C1.below k2).alloc x).cell 0
  have HK : Hid (∀ o, Below w.heap.size w (w2.alloc o)) := fun o => (K1.trans (k2.mono K1.size)).alloc (K1.trans (k2.mono K1.size)).size _
  clear C1 K1 k2 HT1
  go_wp2
  go_ret
  exact ⟨rfl, HK.out _⟩

end Go.Proofs.YtbeceimopamllaaDoor
