/- The law EquationMarkov: bounds up to 100, by the reference's trying. -/
import Derived.Test.YtcbepaionliepaaMkI
import Derived.Test.YtcbepaionliepaaMkJ
import Derived.Test.YtcbepaionliepaaWholeD
set_option linter.unusedSimpArgs false
set_option linter.unusedVariables false
set_option maxRecDepth 100000
namespace Go.Proofs.Ytcbepaionliepaa
open Go.RowKit

theorem isM_dec (x y z : Nat) : MV.isM x y z = decide (x * x + y * y + z * z = 3 * x * y * z) := by
  rw [Bool.eq_iff_iff, decide_eq_true_eq]
  unfold MV.isM
  exact Nat.beq_eq ▸ Iff.rfl

set_option maxHeartbeats 4000000 in
theorem mk_small (m : Nat) (w : World) (hm : m ≤ 100) :
    Calls Try.prog 4 #[.int .i64 (m : Int)] w fun e w' => e = .returned (.bool true) ∧ Below w.heap.size w w' := by
  have HM : Hid (∀ w, Calls Try.prog 14 #[.int .i64 (m : Int)] w fun e w' => ∃ v, e = .returned (.tuple #[v, .agg #[.int .i64 0, .int .i64 0]]) ∧ TR w.heap.size w' v (MV.um m) ∧ Below w.heap.size w w') := fun w => Markov_ok m w (by omega)
  have HNm : Hid (∀ w, Calls Try.prog 15 #[.int .i64 (m : Int)] w fun e w' => e = .returned (.bool true) ∧ w' = w) := fun w => by
    refine (number_any m w).mono ?_
    rintro e w' ⟨rfl, hw⟩
    refine ⟨?_, hw⟩
    have : numB (m : Int) = true := by unfold numB; simp; omega
    rw [this]
  have HMo : Hid (∀ w, Calls Try.prog 17 #[.int .i64 (m : Int)] w fun e w' => ∃ v, e = .returned v ∧ TR w.heap.size w' v (MV.um m) ∧ Below w.heap.size w w') := fun w => by
    refine MarkovOf_of (fun x y z w hx hy hz => ?_) m w hm
    rw [isM_dec]
    exact MarkovIs_any x y z w (by omega) (by omega) (by omega)
  have HTh : Hid (∀ (B B' : Nat) (v v' : Value) (w : World), TR B w v (MV.um m) → TR B' w v' (MV.um m) → Calls Try.prog 16 #[v, v'] w fun e w' => e = .returned (.bool true) ∧ ∃ q, w' = w.drewN q) := fun B B' v v' w h h' => Threes_same w h h' (fun t ht => Fit3.of (MV.mem_um.1 ht).1) (by have := MV.um_len m; omega)
  have HL : Hid ((MV.um m).length ≤ 328) := MV.um_len m
  have t1 : decide ((m : Int) < 0) = false := decide_eq_false (by omega)
  have t2 : decide ((m : Int) ≤ 100) = true := decide_eq_true (by omega)
  clear hm
  go_enter Try.func4, Try.ntmps4
  go_wp2_with fail
  refine (HM.out _).mono ?_
  rintro e w1 ⟨v, rfl, r1, k1⟩
  go_wp2_with fail
  obtain ⟨W1, hW1⟩ : ∃ W, W = w1.alloc (.cells #[.int .i64 0, .int .i64 0] 23) := ⟨_, rfl⟩
  have H1 : Hid (Cl w1.heap.size [.int .i64 0, .int .i64 0] 23 W1 ∧ Below w.heap.size w W1 ∧ TR w.heap.size W1 v (MV.um m)) := by
    show _ ∧ _ ∧ _
    rw [hW1]
    exact ⟨Cl.new [.int .i64 0, .int .i64 0] _ w1, Below.alloc k1 k1.size _, r1.below (Below.alloc (Below.refl _ _) (Nat.le_refl _) _)⟩
  rw [← hW1]
  clear hW1 k1 r1
  refine (equationBegun_any _).mono ?_
  rintro e w2 ⟨rfl, k2⟩
  have H2 : Hid (Below w.heap.size w w2 ∧ TR w.heap.size w2 v (MV.um m)) := ⟨H1.out.2.1.trans (k2.mono H1.out.2.1.size), H1.out.2.2.below k2⟩
  have C2 := H1.out.1.below k2
  have c0 : w2.cell? ⟨w1.heap.size, 0, none⟩ = some (.int .i64 0) := C2.cell 0
  have c1 : w2.cell? ⟨w1.heap.size, 1, none⟩ = some (.int .i64 0) := C2.cell 1
  clear H1 k2 C2
  go_wp2_with fail
  refine (HNm.out _).mono ?_
  rintro e w' ⟨rfl, hw'⟩
  rw [hw']
  clear hw' w'
  obtain ⟨N, hN⟩ : ∃ N, N = (MV.um m).length := ⟨_, rfl⟩
  have t3 : decide (5000 < (N : Int)) = false := decide_eq_false (by have := HL.out; omega)
  have HV : Hid (∃ (aa : Option Addr) (cc : Nat), v = .slice aa N cc) := by
    obtain ⟨aa, g, cc, h, _⟩ := H2.out.2.shape
    exact ⟨aa, cc, by rw [hN]; exact h⟩
  obtain ⟨aa, cc, rfl⟩ := HV.out
  clear HV hN
  go_wp2_with fail
  refine (HMo.out _).mono ?_
  rintro e w3 ⟨v', rfl, r3, k3⟩
  have H3 : Hid (Below w.heap.size w w3 ∧ TR w.heap.size w3 (.slice aa N cc) (MV.um m) ∧ TR w2.heap.size w3 v' (MV.um m)) := ⟨H2.out.1.trans (k3.mono H2.out.1.size), H2.out.2.below k3, r3⟩
  clear r3 k3 H2 c0 c1
  go_wp2_with fail
  refine (HTh.out _ _ _ _ _ H3.out.2.1 H3.out.2.2).mono ?_
  rintro e w4 ⟨rfl, q, hw⟩
  have HK : Hid (Below w.heap.size w w4) := by show Below _ _ _; rw [hw]; exact below_drewN' H3.out.1
  clear hw
  go_wp2
  go_ret
  exact ⟨rfl, HK.out⟩

end Go.Proofs.Ytcbepaionliepaa
